/-
  DERIVED. Merged by mkbase.py.
-/
import Derived.Test.YthamlnolfagpiaaGreatDoorNatLong
import Derived.Test.YthamlnolfagpiaaGreatDoorIntRef
import Derived.Test.YthamlnolfagpiaaGreatDoorIntPure
import Derived.Handy
import Derived.Laws.ResultCell
import Derived.Test.YthamlnolfagpiaaGreatDoorIntMore
import Derived.Lib.ParseIntBTie
namespace Go.Proofs.YthamlnolfagpiaaGreatDoor.D
open Go.RowKit
set_option maxRecDepth 8000

/-! ### plain Lean -/
theorem hasPre (c : UInt8) (t : List UInt8) : Lib.hasPrefix (c :: t) [45] = ((45 : UInt8) == c) := by
  show (((45 : UInt8) == c) && ([] : List UInt8).isPrefixOf t) = _
  cases t <;> simp
theorem cut_neg (z : Int) : Lib.hasPrefix (inumL z) [45] = decide (z < 0) := by
  obtain ⟨c, t, hc, h1, h2⟩ := dec_head z.natAbs
  by_cases h : z < 0
  · rw [inumL_neg h, decide_eq_true h, hasPre]; rfl
  · rw [inumL_pos (by omega), hc, decide_eq_false h, hasPre]
    exact beq_eq_false_iff_ne.2 (by rintro rfl; simp at h1)
theorem cut_num (z : Int) : Lib.trimPrefix (inumL z) [45] = Lib.decDigits z.natAbs := by
  rw [Lib.trimPrefix, cut_neg]
  by_cases h : z < 0
  · rw [decide_eq_true h, if_pos rfl, inumL_neg h]; rfl
  · rw [decide_eq_false h, if_neg (by simp), inumL_pos (by omega)]
theorem rightI_cut (l : List UInt8) : rightI l = (rightL (Lib.trimPrefix l [45]) && !(Lib.hasPrefix l [45] && (Lib.trimPrefix l [45] == [48]))) := by
  match l with
  | [] => rfl
  | c :: t =>
    unfold rightI
    by_cases h : c.toNat = 45
    · have hc : c = 45 := UInt8.toNat_inj.1 h
      subst hc
      simp [Lib.trimPrefix, hasPre]
    · have hc : ¬ (45 : UInt8) = c := by rintro rfl; exact h rfl
      simp [Lib.trimPrefix, hasPre, hc, h]
theorem cut_len (l : List UInt8) : (Lib.trimPrefix l [45]).length ≤ l.length := by
  unfold Lib.trimPrefix
  split <;> simp

/-! ### walks -/
theorem cut_minus (s : ByteArray) (w : World) :
    Calls Tryz.prog 124 #[.string s, .string ⟨#[45]⟩] w fun e w' => e = .returned (.tuple #[.string ⟨(Lib.trimPrefix s.data.toList [45]).toArray⟩, .bool (Lib.hasPrefix s.data.toList [45])]) ∧ w = w' := by
  refine (Tryz.strings_CutPrefix _ _ _).mono ?_
  rintro e w' ⟨he, hw⟩
  exact ⟨he, hw.symm⟩

theorem parse_two (s t : ByteArray) (b : Bool) (ht : Hid (Lib.trimPrefix s.data.toList [45] = t.data.toList)) (hb : Hid (Lib.hasPrefix s.data.toList [45] = b)) (w : World) :
    Calls Tryz.prog 101 #[.string s] w fun e w' => e = .returned (.agg #[.bool b, .string t]) ∧ Below w.heap.size w w' := by
  go_enter Tryz.func101, Tryz.ntmps101
  go_wp2_with fail
  refine (cut_minus s _).mono ?_
  rintro e w' ⟨rfl, rfl⟩
  rw [ht.out, hb.out]
  go_wp2_with fail
  refine bodyPost_ret (v := .agg #[.bool b, .string t]) (by simp [results, Tryz.results101, go_sem]) rfl ⟨rfl, ?_⟩
  go_grown
theorem parse_z (z : Int) (m : Bool) (hm : Hid (decide (z < 0) = m)) (w : World) :
    Calls Tryz.prog 101 #[.string (inum z)] w fun e w' => e = .returned (.agg #[.bool m, .string (num z.natAbs)]) ∧ Below w.heap.size w w' :=
  parse_two (inum z) (num z.natAbs) m (Lib.hid (by rw [inum_data, cut_num, num_data])) (Lib.hid (by rw [inum_data, cut_neg, hm.out])) w

theorem opposite_any (b : Bool) (t : ByteArray) (w : World) :
    Calls Tryz.prog 119 #[.agg #[.bool b, .string t]] w fun e w' => e = .returned (.agg #[.bool (!b), .string t]) ∧ Below w.heap.size w w' := by
  go_enter Tryz.func119, Tryz.ntmps119
  go_wp2_with fail
  refine bodyPost_ret (v := .agg #[.bool (!b), .string t]) (by simp [results, Tryz.results119, go_sem]) rfl ⟨rfl, ?_⟩
  go_grown

theorem neg_text (n : Nat) (h : 0 < n) : (⟨#[45]⟩ : ByteArray) ++ num n = inum (sgn true n) := by
  have := cat_str [45] (Lib.decDigits n)
  rw [inum, text_nat true n h]
  exact this
theorem format_z (b : Bool) (n : Nat) (z : Int) (hz : Hid (sgn b n = z)) (hn : (num n).size ≤ 100000) (w : World) :
    Calls Tryz.prog 116 #[.agg #[.bool b, .string (num n)]] w fun e w' => e = .returned (.string (inum z)) ∧ Below w.heap.size w w' := by
  have hq := zero_eq n
  cases b
  · have HK : Hid (inum z = num n) := by show _ = _; rw [← hz.out]; exact inum_nat n
    clear hq
    go_enter Tryz.func116, Tryz.ntmps116
    go_wp2_with fail
    go_ret
    exact ⟨ret_str HK.out.symm, by go_grown⟩
  · by_cases h : n = 0
    · have HK : Hid (inum z = num n) := by show _ = _; rw [← hz.out, h]; exact inum_nat 0
      rw [decide_eq_true h] at hq
      clear h
      go_enter Tryz.func116, Tryz.ntmps116
      go_wp2_with fail
      go_ret
      exact ⟨ret_str HK.out.symm, by go_grown⟩
    · have HK : Hid (inum z = (⟨#[45]⟩ : ByteArray) ++ num n) := by show _ = _; rw [← hz.out]; exact (neg_text n (by omega)).symm
      rw [decide_eq_false h] at hq
      clear h
      go_enter Tryz.func116, Tryz.ntmps116
      go_wp2_with fail
      go_ret
      exact ⟨ret_str HK.out.symm, by go_grown⟩

theorem result_ok (b : Bool) (n : Nat) (z : Int) (hz : Hid (sgn b n = z)) (hn : (num n).size ≤ 100000) (w : World) :
    Calls Tryz.prog 120 #[.agg #[.bool b, .string (num n)], .int .i64 0] w fun e w' => e = .returned (.tuple #[.string (inum z), .int .i64 0]) ∧ Below w.heap.size w w' := by
  go_enter Tryz.func120, Tryz.ntmps120
  go_wp2_with fail
  refine (format_z b n z hz hn _).mono ?_
  rintro e w1 ⟨rfl, b1⟩
  have hs1 := b1.size
  simp only [World.size_alloc] at b1 hs1
  go_wp2_with fail
  go_ret2
  exact ⟨rfl, (((Below.refl w.heap.size w).alloc (Nat.le_refl _) _).trans (b1.mono (by omega)))⟩
theorem result_over (v : Value) (b : Bool) (t : ByteArray) (hv : v = .agg #[.bool b, .string t]) (w : World) :
    Calls Tryz.prog 120 #[v, .int .i64 4] w fun e w' => e = .returned (.tuple #[.string ⟨#[]⟩, .int .i64 4]) ∧ Below w.heap.size w w' := by
  subst hv
  go_enter Tryz.func120, Tryz.ntmps120
  go_wp2_with fail
  go_ret2
  exact ⟨rfl, by go_grown⟩

theorem natRight_e (t : ByteArray) (p : Bool) (hp : Hid (rightL t.data.toList = p)) (ht : t.size ≤ 1000000000) (w : World) :
    Calls Tryz.prog 76 #[.string t] w fun e w' => e = .returned (.bool p) ∧ w = w' := by
  have := natRight_eq t w ht
  rwa [hp.out] at this

theorem right_b (s : ByteArray) (r : Bool) (hr : Hid (rightI s.data.toList = r)) (hs : s.size ≤ 1000000000) (w : World) :
    Calls Tryz.prog 67 #[.string s] w fun e w' => e = .returned (.bool r) ∧ Below w.heap.size w w' := by
  obtain ⟨t, ht⟩ : ∃ t : ByteArray, Lib.trimPrefix s.data.toList [45] = t.data.toList := ⟨⟨(Lib.trimPrefix s.data.toList [45]).toArray⟩, by simp⟩
  obtain ⟨b, hb⟩ : ∃ b, Lib.hasPrefix s.data.toList [45] = b := ⟨_, rfl⟩
  have hts : t.size ≤ 1000000000 := by
    have := cut_len s.data.toList
    rw [ht, len_of, len_of] at this
    omega
  obtain ⟨q, hq⟩ : ∃ q, (t.toList == [48]) = q := ⟨_, rfl⟩
  obtain ⟨p, hp⟩ : ∃ p, rightL t.data.toList = p := ⟨_, rfl⟩
  have HK : Hid (r = (p && !(b && q))) := by
    show _ = _
    rw [← hr.out, rightI_cut, ht, hb, hp, ← hq, ByteArray.toList_eq]
  have HT := Lib.hid ht
  have HB := Lib.hid hb
  have HP := Lib.hid hp
  clear ht hb hp hr hs
  cases b <;> cases p <;> cases q
  all_goals
    go_enter Tryz.func67, Tryz.ntmps67
    go_wp2_with fail
    refine (parse_two s t _ HT HB _).mono ?_
    rintro e w1 ⟨rfl, b1⟩
    have hs1 := b1.size
    go_wp2_with fail
    refine (natRight_e t _ HP hts _).mono ?_
    rintro e w' ⟨rfl, rfl⟩
    go_wp2_with fail
    go_ret
    exact ⟨ret_bool HK.out.symm, by go_grown⟩

end Go.Proofs.YthamlnolfagpiaaGreatDoor.D

namespace Go.Proofs.YthamlnolfagpiaaGreatDoor.D
open Go.RowKit
set_option maxRecDepth 8000

/-! ### check -/
def rI (t : ByteArray) : Bool := rightI t.data.toList
def dz (t : ByteArray) : Nat := (Lib.trimPrefix t.data.toList [45]).length
def sI (t : ByteArray) : Bool := decide (dz t ≤ 4096)
/-- the error that the texts have in common -/
def checkL (ts : List ByteArray) : Int := if ts.all rI = true then (if ts.all sI = true then 0 else 4) else 3
theorem lall_stop {l : List ByteArray} {p : ByteArray → Bool} {k : Nat} (h : k < l.length) (hp : p l[k] = false) : ¬ l.all p = true := by
  intro e
  have := (List.all_eq_true.1 e) l[k] (List.getElem_mem h)
  rw [hp] at this; cases this
theorem lall_step {l : List ByteArray} {p : ByteArray → Bool} {k : Nat} (h : k < l.length) (ha : (l.take k).all p = true) (hp : p l[k] = true) : (l.take (k + 1)).all p = true := by
  rw [List.take_succ_eq_append_getElem h, List.all_append, ha, List.all_cons, hp]; rfl
theorem dz_inum (z : Int) : dz (inum z) = nd z.natAbs := by rw [dz, inum_data, cut_num]; rfl

set_option maxHeartbeats 800000 in
theorem check_any (ts : List ByteArray) (n g cap : Nat) (hn : ts.length = n) (x : Int) (hx : Hid (checkL ts = x)) (w : World)
    (hc : ∀ (j : Nat) (h : j < ts.length), w.cell? ⟨g, j, none⟩ = some (.string ts[j])) (hg : g < w.heap.size) (hsz : ∀ (j : Nat) (h : j < ts.length), ts[j].size ≤ 1000000000) (hn9 : n ≤ 1000) :
    Calls Tryz.prog 114 #[.slice (some ⟨g, 0, none⟩) n cap] w fun e w' => e = .returned (.int .i64 x) ∧ Below w.heap.size w w' := by
  have HN := Lib.hid hn
  have HC := Lib.hid hc
  have HS := Lib.hid hsz
  clear hn hc hsz
  go_enter Tryz.func114, Tryz.ntmps114
  go_wp2_with fail
  go_loopw [9] (fun i wr => ∃ k : Nat, k ≤ n ∧ i = .int .i64 k ∧ Hid ((ts.take k).all rI = true) ∧ Below w.heap.size w wr) (fun i _ => n - (intOf i).toNat)
  case atStart => exact ⟨0, Nat.zero_le _, rfl, by rw [List.take_zero]; rfl, Below.refl _ _⟩
  case round =>
    obtain ⟨k, hk, rfl, HA, hb⟩ := hrel
    have hbs := hb.size
    by_cases hlt : k < n
    · have hkl : k < ts.length := by rw [HN.out]; exact hlt
      obtain ⟨s, hs⟩ : ∃ s, ts[k] = s := ⟨_, rfl⟩
      have hcell : _root_.Go.World.cell? _ ⟨g, k, none⟩ = some (.string s) := (hb.cell hg).trans (by rw [HC.out k hkl, hs])
      have hss : s.size ≤ 1000000000 := by rw [← hs]; exact HS.out k hkl
      obtain ⟨r, hr⟩ : ∃ r, rI ts[k] = r := ⟨_, rfl⟩
      have HR : Hid (rightI s.data.toList = r) := by show _ = _; rw [← hr, hs]; rfl
      have HRR := Lib.hid hr
      have HSK := Lib.hid hs
      clear hr hs
      cases r
      · have HK : Hid (x = 3) := by show _ = _; rw [← hx.out, checkL, if_neg (lall_stop hkl HRR.out)]
        go_wp2_with fail
        refine (right_b s false HR hss _).mono ?_
        rintro e w1 ⟨rfl, b1⟩
        go_wp2_with fail
        go_ret
        exact ⟨ret_int HK.out.symm, hb.trans (b1.mono hbs)⟩
      · have HA' := Lib.hid (lall_step hkl HA.out HRR.out)
        go_wp2_with fail
        refine (right_b s true HR hss _).mono ?_
        rintro e w1 ⟨rfl, b1⟩
        have hb1 := hb.trans (b1.mono hbs)
        go_wp2_with fail
        go_round
        case rel => exact ⟨k + 1, by omega, by go_num, HA', hb1⟩
        case measure => simp [intOf]; omega
    · have hk' : k = n := by omega
      subst hk'
      have HAA : Hid (ts.all rI = true) := by
        have := HA.out
        rw [List.take_of_length_le (by rw [HN.out]; exact Nat.le_refl _)] at this
        exact this
      go_wp2_with fail
      go_loopw [19] (fun i wr => ∃ k2 : Nat, k2 ≤ k ∧ i = .int .i64 k2 ∧ Hid ((ts.take k2).all sI = true) ∧ Below w.heap.size w wr) (fun i _ => k - (intOf i).toNat)
      case atStart => exact ⟨0, Nat.zero_le _, rfl, by rw [List.take_zero]; rfl, hb⟩
      case round =>
        clear hb hbs HA
        obtain ⟨j, hj, rfl, HA, hb⟩ := hrel
        have hbs := hb.size
        by_cases hjt : j < k
        · have hkl : j < ts.length := by rw [HN.out]; exact hjt
          obtain ⟨s, hs⟩ : ∃ s, ts[j] = s := ⟨_, rfl⟩
          have hcell : _root_.Go.World.cell? _ ⟨g, j, none⟩ = some (.string s) := (hb.cell hg).trans (by rw [HC.out j hkl, hs])
          obtain ⟨t, ht⟩ : ∃ t : ByteArray, Lib.trimPrefix s.data.toList [45] = t.data.toList := ⟨⟨(Lib.trimPrefix s.data.toList [45]).toArray⟩, by simp⟩
          have hd : dz ts[j] = t.size := by rw [dz, hs, ht, len_of]
          have HT := Lib.hid ht
          have HD := Lib.hid hd
          clear ht hd hs
          by_cases h5 : 4096 < t.size
          · have HK : Hid (x = 4) := by
              show _ = _
              rw [← hx.out, checkL, if_pos HAA.out, if_neg (lall_stop hkl (by rw [sI, HD.out]; exact decide_eq_false (by omega)))]
            go_wp2_with fail
            refine (parse_two s t _ HT (Lib.hid rfl) _).mono ?_
            rintro e w1 ⟨rfl, b1⟩
            go_wp2_with fail
            show (?K : Act → World → Prop) (Act.put _ _ (Value.string t)) _
            go_wp2_with fail
            go_ret
            exact ⟨ret_int HK.out.symm, hb.trans (b1.mono hbs)⟩
          · have HA' := Lib.hid (lall_step hkl HA.out (by rw [sI, HD.out]; exact decide_eq_true (by omega)))
            go_wp2_with fail
            refine (parse_two s t _ HT (Lib.hid rfl) _).mono ?_
            rintro e w1 ⟨rfl, b1⟩
            have hb1 := hb.trans (b1.mono hbs)
            go_wp2_with fail
            show (?K2 : Act → World → Prop) (Act.put _ _ (Value.string t)) _
            go_wp2_with fail
            go_round
            case rel => exact ⟨j + 1, by omega, by go_num, HA', hb1⟩
            case measure => simp [intOf]; omega
        · have hj' : j = k := by omega
          subst hj'
          have HK : Hid (x = 0) := by
            show _ = _
            have := HA.out
            rw [List.take_of_length_le (by rw [HN.out]; exact Nat.le_refl _)] at this
            rw [← hx.out, checkL, if_pos HAA.out, if_pos this]
          go_wp2_with fail
          go_ret
          exact ⟨ret_int HK.out.symm, hb⟩

end Go.Proofs.YthamlnolfagpiaaGreatDoor.D

namespace Go.Proofs.YthamlnolfagpiaaGreatDoor.D
open Go.RowKit
set_option maxRecDepth 8000

/-- what the library's variables hold -/
structure Tab (w : World) : Prop where
  tab : Go.Proofs.YthamlnolfagpiaaGreatDoor.Tab w
  err : ∃ tp p, w.var? Tryz.prog "strconv.ErrRange" = some #[.iface tp p]
theorem gErr : Tryz.prog.globalNamed "strconv.ErrRange" = some 2 := by kernel_rfl
theorem Tab.below {B : Nat} {w w' : World} (h : Tab w) (hB : w.heap.size ≤ B) (hb : Below B w w') : Tab w' := by
  obtain ⟨tp, p, hv⟩ := h.err
  have h0 := World.var?_cell gErr hv 0
  have hlt := World.block_lt_of_cell? _ _ (show w.cell? ⟨2, 0, none⟩ = some (.iface tp p) by simpa using h0)
  exact ⟨h.tab.below hB hb, tp, p, var?_below hb gErr (Nat.lt_of_lt_of_le hlt hB) hv⟩
theorem Below.over {w W w1 : World} (h : Below w.heap.size w W) (b : Below W.heap.size W w1) : Below w.heap.size w w1 := h.trans (b.mono h.size)
theorem Tab.over {w W : World} (h : Tab w) (b : Below w.heap.size w W) : Tab W := h.below (Nat.le_refl _) b

/-- block n holds a sign and digits -/
def Bx (w : World) (n : Nat) (b : Bool) (t : ByteArray) : Prop := w.heap[n]? = some (.cells #[.bool b, .string t] 101)
section
variable {w w' : World} {n : Nat} {b : Bool} {t : ByteArray}
theorem Bx.c0 (h : Bx w n b t) : w.cell? ⟨n, 0, none⟩ = some (.bool b) := by unfold Bx at h; simp [World.cell?, h]
theorem Bx.c1 (h : Bx w n b t) : w.cell? ⟨n, 1, none⟩ = some (.string t) := by unfold Bx at h; simp [World.cell?, h]
theorem Bx.f0 (h : Bx w n b t) : w.frozen? ⟨n, 0, none⟩ = false := by unfold Bx at h; simp [World.frozen?, h]
theorem Bx.f1 (h : Bx w n b t) : w.frozen? ⟨n, 1, none⟩ = false := by unfold Bx at h; simp [World.frozen?, h]
theorem Bx.below {B : Nat} (h : Bx w n b t) (hb : Below B w w') (hn : n < B) : Bx w' n b t := (hb.block n hn).trans h
theorem Bx.alloc (h : Bx w n b t) (o : Obj) : Bx (w.alloc o) n b t := by
  have hl : n < w.heap.size := by
    apply Decidable.byContradiction
    intro hc
    unfold Bx at h
    rw [Array.getElem?_eq_none (by omega)] at h; cases h
  exact (Below.heap_alloc w o n hl).trans h
theorem Bx.made (w : World) (n : Nat) (hn : n = w.heap.size) (b : Bool) (t : ByteArray) : Bx (w.alloc (.cells #[.bool b, .string t] 101)) n b t := by
  subst hn
  show (w.heap.push _)[w.heap.size]? = _
  simp
theorem Bx.put (h : Bx w n b t) (b' : Bool) (t' : ByteArray) : Bx ((w.setCell ⟨n, 0, none⟩ (.bool b')).setCell ⟨n, 1, none⟩ (.string t')) n b' t' := by
  unfold Bx at *; simp [World.setCell, Array.getElem?_modify, h]
theorem Bx.far (h : Bx w n b t) {p : Addr} (hp : n ≠ p.block) (u : Value) : Bx (w.setCell p u) n b t := (Below.heap_setCell w p u n hp).trans h
end

def cI (b : Bool) (t : ByteArray) : Obj := .cells #[.bool b, .string t] 101
theorem bx3 {w w1 : World} {b c d : Bool} {x y z : ByteArray} (h : Below (((w.alloc (cI b x)).alloc (cI c y)).alloc (cI d z)).heap.size (((w.alloc (cI b x)).alloc (cI c y)).alloc (cI d z)) w1) :
    Bx w1 w.heap.size b x ∧ Bx w1 (w.heap.size + 1) c y ∧ Bx w1 (w.heap.size + 2) d z :=
  ⟨(((Bx.made w _ rfl b x).alloc _).alloc _).below h (by simp; omega), ((Bx.made (w.alloc (cI b x)) _ (by simp) c y).alloc _).below h (by simp), (Bx.made ((w.alloc (cI b x)).alloc (cI c y)) _ (by simp) d z).below h (by simp)⟩

def SumPost (z : Int) (w : World) (e : Ending) (w' : World) : Prop :=
  ∃ b : Bool, e = .returned (.tuple #[.agg #[.bool b, .string (num z.natAbs)], .int .i64 0]) ∧ Hid (sgn b z.natAbs = z) ∧ Below w.heap.size w w'
def OverPost (w : World) (e : Ending) (w' : World) : Prop :=
  ∃ b : Bool, e = .returned (.tuple #[.agg #[.bool b, .string ⟨#[]⟩], .int .i64 4]) ∧ Below w.heap.size w w'

theorem natAdd_e (u v n : Nat) (hn : Hid (u + v = n)) (w : World) (hu : (num u).size ≤ 4096) (hv : (num v).size ≤ 4096) (h : (num n).size ≤ 4096) (ht : Go.Proofs.YthamlnolfagpiaaGreatDoor.Tab w) :
    Calls Tryz.prog 165 #[.string (num u), .string (num v)] w fun e w' => e = .returned (.tuple #[.string (num n), .int .i64 0]) ∧ Below w.heap.size w w' := by
  have e := hn.out
  subst e
  exact natAdd_num u v w hu hv h ht
theorem natSub_e (u v n : Nat) (hn : Hid (v + n = u)) (w : World) (hu : (num u).size ≤ 4096) (hv : (num v).size ≤ 4096) (ht : Go.Proofs.YthamlnolfagpiaaGreatDoor.Tab w) :
    Calls Tryz.prog 166 #[.string (num u), .string (num v)] w fun e w' => e = .returned (.tuple #[.string (num n), .int .i64 0]) ∧ Below w.heap.size w w' := by
  have e := hn.out
  have := natSub_num u v (by omega) w hu hv ht
  rwa [show u - v = n by omega] at this

set_option maxHeartbeats 800000 in
theorem sum_same (m : Bool) (u v : Nat) (z : Int) (hz : Hid (sgn m u + sgn m v = z)) (w : World) (hu : (num u).size ≤ 4096) (hv : (num v).size ≤ 4096) (h : nd z.natAbs ≤ 4096) (ht : Tab w) :
    Calls Tryz.prog 146 #[.agg #[.bool m, .string (num u)], .agg #[.bool m, .string (num v)]] w fun e w' => SumPost z w e w' := by
  have HZ : Hid (u + v = z.natAbs) := by show _ = _; rw [← hz.out]; cases m <;> simp [sgn] <;> omega
  have HS : Hid (sgn m z.natAbs = z) := by show _ = _; rw [← HZ.out, ← hz.out]; cases m <;> simp [sgn] <;> omega
  have hsz : (num z.natAbs).size ≤ 4096 := by rw [num_size]; exact h
  go_enter Tryz.func146, Tryz.ntmps146
  go_wp2_with fail
  refine (natAdd_e u v z.natAbs HZ _ hu hv hsz (ht.over (by go_grown)).tab).mono ?_
  rintro e w1 ⟨rfl, b1⟩
  have hs1 := b1.size
  have B1 := Below.over (w := w) (by go_grown) b1
  obtain ⟨hx, _, hr⟩ := bx3 (w := w) (b := m) (c := m) (d := false) b1
  have c0 := hx.c0
  have r0 := hr.c0
  have r1 := hr.c1
  have q0 := hr.f0
  have q1 := hr.f1
  go_wp2_with fail
  have hF := hr.put m (num z.natAbs)
  have g0 := hF.c0
  have g1 := hF.c1
  refine bodyPost_ret (v := .tuple #[.agg #[.bool m, .string (num z.natAbs)], .int .i64 0]) (by simp [results, Tryz.results146, go_sem, g0, g1]) rfl ⟨_, rfl, HS, by go_grown⟩

set_option maxHeartbeats 800000 in
theorem sum_diff (m n : Bool) (hmn : (m == n) = false) (u v : Nat) (z : Int) (hz : Hid (sgn m u + sgn n v = z)) (w : World) (hu : (num u).size ≤ 4096) (hv : (num v).size ≤ 4096) (ht : Tab w) :
    Calls Tryz.prog 146 #[.agg #[.bool m, .string (num u)], .agg #[.bool n, .string (num v)]] w fun e w' => SumPost z w e w' := by
  by_cases huv : u < v
  · have HZ : Hid (u + z.natAbs = v) := by show _ = _; rw [← hz.out]; cases m <;> cases n <;> simp [sgn] at hmn ⊢ <;> omega
    have HS : Hid (sgn n z.natAbs = z) := by show _ = _; have := HZ.out; have := hz.out; cases m <;> cases n <;> simp [sgn] at hmn this ⊢ <;> omega
    have HC : Hid (cmpN u v = -1) := by show _ = _; rw [cmpN, if_pos huv]
    clear huv
    go_enter Tryz.func146, Tryz.ntmps146
    go_wp2_with fail
    refine (cmp_c u v _ HC _ (by omega) (by omega)).mono ?_
    rintro e w' ⟨rfl, rfl⟩
    go_wp2_with fail
    refine (natSub_e v u z.natAbs HZ _ hv hu (ht.over (by go_grown)).tab).mono ?_
    rintro e w1 ⟨rfl, b1⟩
    have hs1 := b1.size
    have B1 := Below.over (w := w) (by go_grown) b1
    obtain ⟨hx, _, hr⟩ := bx3 (w := w) (b := n) (c := m) (d := false) b1
    have c0 := hx.c0
    have r0 := hr.c0
    have r1 := hr.c1
    have q0 := hr.f0
    have q1 := hr.f1
    go_wp2_with fail
    have hF := hr.put n (num z.natAbs)
    have g0 := hF.c0
    have g1 := hF.c1
    refine bodyPost_ret (v := .tuple #[.agg #[.bool n, .string (num z.natAbs)], .int .i64 0]) (by simp [results, Tryz.results146, go_sem, g0, g1]) rfl ⟨_, rfl, HS, by go_grown⟩
  · have HZ : Hid (v + z.natAbs = u) := by show _ = _; rw [← hz.out]; cases m <;> cases n <;> simp [sgn] at hmn ⊢ <;> omega
    have HS : Hid (sgn m z.natAbs = z) := by show _ = _; have := HZ.out; have := hz.out; cases m <;> cases n <;> simp [sgn] at hmn this ⊢ <;> omega
    obtain ⟨c, hc, hc0⟩ : ∃ c, cmpN u v = c ∧ 0 ≤ c := ⟨_, rfl, by rw [cmpN, if_neg huv]; split <;> omega⟩
    have HC := Lib.hid hc
    clear huv hc
    go_enter Tryz.func146, Tryz.ntmps146
    go_wp2_with fail
    refine (cmp_c u v _ HC _ (by omega) (by omega)).mono ?_
    rintro e w' ⟨rfl, rfl⟩
    go_wp2_with fail
    refine (natSub_e u v z.natAbs HZ _ hu hv (ht.over (by go_grown)).tab).mono ?_
    rintro e w1 ⟨rfl, b1⟩
    have hs1 := b1.size
    have B1 := Below.over (w := w) (by go_grown) b1
    obtain ⟨hx, _, hr⟩ := bx3 (w := w) (b := m) (c := n) (d := false) b1
    have c0 := hx.c0
    have r0 := hr.c0
    have r1 := hr.c1
    have q0 := hr.f0
    have q1 := hr.f1
    go_wp2_with fail
    have hF := hr.put m (num z.natAbs)
    have g0 := hF.c0
    have g1 := hF.c1
    refine bodyPost_ret (v := .tuple #[.agg #[.bool m, .string (num z.natAbs)], .int .i64 0]) (by simp [results, Tryz.results146, go_sem, g0, g1]) rfl ⟨_, rfl, HS, by go_grown⟩

theorem natAdd_eo (u v n : Nat) (hn : Hid (u + v = n)) (w : World) (hu : (num u).size ≤ 4096) (hv : (num v).size ≤ 4096) (h : 4096 < (num n).size) (ht : Go.Proofs.YthamlnolfagpiaaGreatDoor.Tab w) :
    Calls Tryz.prog 165 #[.string (num u), .string (num v)] w fun e w' => e = .returned (.tuple #[.string ⟨#[]⟩, .int .i64 4]) ∧ Below w.heap.size w w' := by
  have e := hn.out
  subst e
  exact natAdd_over u v w hu hv h ht
set_option maxHeartbeats 800000 in
theorem sum_over (m : Bool) (u v : Nat) (z : Int) (hz : Hid (sgn m u + sgn m v = z)) (w : World) (hu : (num u).size ≤ 4096) (hv : (num v).size ≤ 4096) (h : 4096 < nd z.natAbs) (ht : Tab w) :
    Calls Tryz.prog 146 #[.agg #[.bool m, .string (num u)], .agg #[.bool m, .string (num v)]] w fun e w' => OverPost w e w' := by
  have HZ : Hid (u + v = z.natAbs) := by show _ = _; rw [← hz.out]; cases m <;> simp [sgn] <;> omega
  have hsz : 4096 < (num z.natAbs).size := by rw [num_size]; exact h
  go_enter Tryz.func146, Tryz.ntmps146
  go_wp2_with fail
  refine (natAdd_eo u v z.natAbs HZ _ hu hv hsz (ht.over (by go_grown)).tab).mono ?_
  rintro e w1 ⟨rfl, b1⟩
  have hs1 := b1.size
  have B1 := Below.over (w := w) (by go_grown) b1
  obtain ⟨hx, _, hr⟩ := bx3 (w := w) (b := m) (c := m) (d := false) b1
  have c0 := hx.c0
  have r0 := hr.c0
  have r1 := hr.c1
  have q0 := hr.f0
  have q1 := hr.f1
  go_wp2_with fail
  have hF := hr.put m ⟨#[]⟩
  have g0 := hF.c0
  have g1 := hF.c1
  refine bodyPost_ret (v := .tuple #[.agg #[.bool m, .string ⟨#[]⟩], .int .i64 4]) (by simp [results, Tryz.results146, go_sem, g0, g1]) rfl ⟨_, rfl, by go_grown⟩

end Go.Proofs.YthamlnolfagpiaaGreatDoor.D

namespace Go.Proofs.YthamlnolfagpiaaGreatDoor.D
open Go.RowKit
set_option maxRecDepth 8000

theorem natMul_e (u v n : Nat) (hn : Hid (u * v = n)) (w : World) (hu : (num u).size ≤ 4096) (hv : (num v).size ≤ 4096) (h : (num n).size ≤ 4096) (ht : Go.Proofs.YthamlnolfagpiaaGreatDoor.Tab w) :
    Calls Tryz.prog 140 #[.string (num u), .string (num v)] w fun e w' => e = .returned (.tuple #[.string (num n), .int .i64 0]) ∧ Below w.heap.size w w' := by
  have e := hn.out
  subst e
  exact natMul_num u v w hu hv h ht
theorem natMul_eo (u v n : Nat) (hn : Hid (u * v = n)) (w : World) (hu : (num u).size ≤ 4096) (hv : (num v).size ≤ 4096) (h : 4096 < (num n).size) (ht : Go.Proofs.YthamlnolfagpiaaGreatDoor.Tab w) :
    Calls Tryz.prog 140 #[.string (num u), .string (num v)] w fun e w' => e = .returned (.tuple #[.string ⟨#[]⟩, .int .i64 4]) ∧ Below w.heap.size w w' := by
  have e := hn.out
  subst e
  exact natMul_over u v w hu hv h ht
theorem sgn_mulB (m n : Bool) (u v : Nat) : sgn m u * sgn n v = sgn (m != n) (u * v) := by cases m <;> cases n <;> simp [sgn, Int.mul_neg, Int.neg_mul]
theorem mul_abs {m n : Bool} {u v : Nat} {z : Int} (hz : sgn m u * sgn n v = z) : u * v = z.natAbs ∧ sgn (m != n) z.natAbs = z := by
  rw [sgn_mulB] at hz
  rw [← hz, sgn_abs]
  exact ⟨rfl, rfl⟩

set_option maxHeartbeats 800000 in
theorem product_z (m n b : Bool) (hb : (m != n) = b) (u v : Nat) (z : Int) (hz : Hid (sgn m u * sgn n v = z)) (w : World) (hu : (num u).size ≤ 4096) (hv : (num v).size ≤ 4096) (h : nd z.natAbs ≤ 4096) (ht : Tab w) :
    Calls Tryz.prog 121 #[.agg #[.bool m, .string (num u)], .agg #[.bool n, .string (num v)]] w fun e w' => SumPost z w e w' := by
  have HZ : Hid (u * v = z.natAbs) := (mul_abs hz.out).1
  have HS : Hid (sgn b z.natAbs = z) := by show _ = _; rw [← hb]; exact (mul_abs hz.out).2
  have hsz : (num z.natAbs).size ≤ 4096 := by rw [num_size]; exact h
  have hb2 : (!m == n) = b := by rw [← hb]; cases m <;> cases n <;> rfl
  go_enter Tryz.func121, Tryz.ntmps121
  go_wp2_with fail
  refine (natMul_e u v z.natAbs HZ _ hu hv hsz (ht.over (by go_grown)).tab).mono ?_
  rintro e w1 ⟨rfl, b1⟩
  have hs1 := b1.size
  have B1 := Below.over (w := w) (by go_grown) b1
  obtain ⟨hx, hy, hr⟩ := bx3 (w := w) (b := m) (c := n) (d := false) b1
  have c0 := hx.c0
  have d0 := hy.c0
  have r0 := hr.c0
  have r1 := hr.c1
  have q0 := hr.f0
  have q1 := hr.f1
  go_wp2_with fail
  have hF := hr.put b (num z.natAbs)
  have g0 := hF.c0
  have g1 := hF.c1
  refine bodyPost_ret (v := .tuple #[.agg #[.bool b, .string (num z.natAbs)], .int .i64 0]) (by simp [results, Tryz.results121, go_sem, g0, g1]) rfl ⟨_, rfl, HS, by go_grown⟩

set_option maxHeartbeats 800000 in
theorem product_over (m n b : Bool) (hb : (m != n) = b) (u v : Nat) (z : Int) (hz : Hid (sgn m u * sgn n v = z)) (w : World) (hu : (num u).size ≤ 4096) (hv : (num v).size ≤ 4096) (h : 4096 < nd z.natAbs) (ht : Tab w) :
    Calls Tryz.prog 121 #[.agg #[.bool m, .string (num u)], .agg #[.bool n, .string (num v)]] w fun e w' => OverPost w e w' := by
  have HZ : Hid (u * v = z.natAbs) := (mul_abs hz.out).1
  have hsz : 4096 < (num z.natAbs).size := by rw [num_size]; exact h
  have hb2 : (!m == n) = b := by rw [← hb]; cases m <;> cases n <;> rfl
  go_enter Tryz.func121, Tryz.ntmps121
  go_wp2_with fail
  refine (natMul_eo u v z.natAbs HZ _ hu hv hsz (ht.over (by go_grown)).tab).mono ?_
  rintro e w1 ⟨rfl, b1⟩
  have hs1 := b1.size
  have B1 := Below.over (w := w) (by go_grown) b1
  obtain ⟨hx, hy, hr⟩ := bx3 (w := w) (b := m) (c := n) (d := false) b1
  have c0 := hx.c0
  have d0 := hy.c0
  have r0 := hr.c0
  have r1 := hr.c1
  have q0 := hr.f0
  have q1 := hr.f1
  go_wp2_with fail
  have hF := hr.put b ⟨#[]⟩
  have g0 := hF.c0
  have g1 := hF.c1
  refine bodyPost_ret (v := .tuple #[.agg #[.bool b, .string ⟨#[]⟩], .int .i64 4]) (by simp [results, Tryz.results121, go_sem, g0, g1]) rfl ⟨_, rfl, by go_grown⟩

/-! ### division -/
theorem one_num : (⟨#[49]⟩ : ByteArray) = num 1 := lit_num [49] 1 (by decide) (by decide)
theorem roundUp_z (q r v q' r' : Nat) (hq : Hid (q + 1 = q')) (hr : Hid (r + r' = v)) (w : World) (h1 : (num q).size ≤ 4096) (h2 : (num q').size ≤ 4096) (h3 : (num r).size ≤ 4096) (h4 : (num v).size ≤ 4096) (ht : Tab w) :
    Calls Tryz.prog 139 #[.string (num q), .string (num r), .string (num v)] w fun e w' => e = .returned (.tuple #[.string (num q'), .string (num r')]) ∧ Below w.heap.size w w' := by
  have e1 : (num 1).size ≤ 4096 := by rw [← one_num]; decide
  have HA := fun w ht => natAdd_e q 1 q' hq w h1 e1 h2 ht
  rw [← one_num] at HA
  go_enter Tryz.func139, Tryz.ntmps139
  go_wp2_with fail
  refine (HA _ ht.tab).mono ?_
  rintro e w1 ⟨rfl, b1⟩
  go_wp2_with fail
  refine (natSub_e v r r' hr _ h4 h3 (ht.over b1).tab).mono ?_
  rintro e w2 ⟨rfl, b2⟩
  go_wp2_with fail
  go_ret2
  exact ⟨rfl, Below.over b1 b2⟩

theorem natDiv_e (u v q r : Nat) (hq : Hid (u / v = q)) (hr : Hid (u % v = r)) (hv0 : 0 < v) (w : World) (hu : (num u).size ≤ 4096) (hv : (num v).size ≤ 4096) (ht : Go.Proofs.YthamlnolfagpiaaGreatDoor.Tab w) :
    Calls Tryz.prog 138 #[.string (num u), .string (num v)] w fun e w' => e = .returned (.tuple #[.string (num q), .string (num r), .int .i64 0]) ∧ Below w.heap.size w w' := by
  have := natDiv_num u v hv0 w hu hv ht
  rwa [hq.out, hr.out] at this
theorem bx4 {w w1 : World} {b c d d' : Bool} {x y z z' : ByteArray} (h : Below ((((w.alloc (cI b x)).alloc (cI c y)).alloc (cI d z)).alloc (cI d' z')).heap.size ((((w.alloc (cI b x)).alloc (cI c y)).alloc (cI d z)).alloc (cI d' z')) w1) :
    Bx w1 w.heap.size b x ∧ Bx w1 (w.heap.size + 1) c y ∧ Bx w1 (w.heap.size + 2) d z ∧ Bx w1 (w.heap.size + 3) d' z' :=
  ⟨((((Bx.made w _ rfl b x).alloc _).alloc _).alloc _).below h (by simp; omega), (((Bx.made (w.alloc (cI b x)) _ (by simp) c y).alloc _).alloc _).below h (by simp),
    ((Bx.made ((w.alloc (cI b x)).alloc (cI c y)) _ (by simp) d z).alloc _).below h (by simp), (Bx.made (((w.alloc (cI b x)).alloc (cI c y)).alloc (cI d z)) _ (by simp) d' z').below h (by simp)⟩

def DivPost (b n : Bool) (q r : Nat) (w : World) (e : Ending) (w' : World) : Prop :=
  e = .returned (.tuple #[.agg #[.bool b, .string (num q)], .agg #[.bool n, .string (num r)], .int .i64 0]) ∧ Below w.heap.size w w'

theorem natDiv_z (u : Nat) (w : World) (hu : (num u).size ≤ 4096) :
    Calls Tryz.prog 138 #[.string (num u), .string (num 0)] w fun e w' => e = .returned (.tuple #[.string ⟨#[]⟩, .string ⟨#[]⟩, .int .i64 10]) ∧ Below w.heap.size w w' := natDiv_zero u w hu
def DivZero (b n : Bool) (w : World) (e : Ending) (w' : World) : Prop :=
  e = .returned (.tuple #[.agg #[.bool b, .string ⟨#[]⟩], .agg #[.bool n, .string ⟨#[]⟩], .int .i64 10]) ∧ Below w.heap.size w w'
set_option maxHeartbeats 2000000 in
theorem divide_zero_false (m n : Bool) (hb : (m != n) = false) (u : Nat) (w : World) (hu : (num u).size ≤ 4096) :
    Calls Tryz.prog 115 #[.agg #[.bool m, .string (num u)], .agg #[.bool n, .string (num 0)]] w fun e w' => DivZero false n w e w' := by
  have hb2 : (!m == n) = false := by rw [← hb]; cases m <;> cases n <;> rfl
  go_enter Tryz.func115, Tryz.ntmps115
  go_wp2_with fail
  refine (natDiv_z u _ hu).mono ?_
  rintro e w1 ⟨rfl, b1⟩
  have hs1 := b1.size
  have B1 := Below.over (w := w) (by go_grown) b1
  obtain ⟨hx, hy, hr, hr'⟩ := bx4 (w := w) (b := m) (c := n) (d := false) (d' := false) b1
  have c0 := hx.c0
  have d0 := hy.c0
  have r0 := hr.c0
  have r1 := hr.c1
  have q0 := hr.f0
  have q1 := hr.f1
  have r0' := hr'.c0
  have r1' := hr'.c1
  have q0' := hr'.f0
  have q1' := hr'.f1
  go_upto_region 5 with fail
  go_region
  all_goals
    go_wp2_with fail
    have hF := ((hr.put false ⟨#[]⟩).far (p := ⟨w.heap.size + 3, 0, none⟩) (by simp) (.bool n)).far (p := ⟨w.heap.size + 3, 1, none⟩) (by simp) (.string ⟨#[]⟩)
    have hG := ((hr'.far (p := ⟨w.heap.size + 2, 0, none⟩) (by simp) (.bool false)).far (p := ⟨w.heap.size + 2, 1, none⟩) (by simp) (.string ⟨#[]⟩)).put n ⟨#[]⟩
    have g0 := hF.c0
    have g1 := hF.c1
    have k0 := hG.c0
    have k1 := hG.c1
    refine bodyPost_ret (v := .tuple #[.agg #[.bool false, .string ⟨#[]⟩], .agg #[.bool n, .string ⟨#[]⟩], .int .i64 10]) (by simp [results, Tryz.results115, go_sem, g0, g1, k0, k1]) rfl ⟨rfl, by go_grown⟩

set_option maxHeartbeats 2000000 in
theorem divide_zero_true (m n : Bool) (hb : (m != n) = true) (u : Nat) (w : World) (hu : (num u).size ≤ 4096) :
    Calls Tryz.prog 115 #[.agg #[.bool m, .string (num u)], .agg #[.bool n, .string (num 0)]] w fun e w' => DivZero true n w e w' := by
  have hb2 : (!m == n) = true := by rw [← hb]; cases m <;> cases n <;> rfl
  go_enter Tryz.func115, Tryz.ntmps115
  go_wp2_with fail
  refine (natDiv_z u _ hu).mono ?_
  rintro e w1 ⟨rfl, b1⟩
  have hs1 := b1.size
  have B1 := Below.over (w := w) (by go_grown) b1
  obtain ⟨hx, hy, hr, hr'⟩ := bx4 (w := w) (b := m) (c := n) (d := false) (d' := false) b1
  have c0 := hx.c0
  have d0 := hy.c0
  have r0 := hr.c0
  have r1 := hr.c1
  have q0 := hr.f0
  have q1 := hr.f1
  have r0' := hr'.c0
  have r1' := hr'.c1
  have q0' := hr'.f0
  have q1' := hr'.f1
  go_upto_region 5 with fail
  go_region
  all_goals
    go_wp2_with fail
    have hF := ((hr.put true ⟨#[]⟩).far (p := ⟨w.heap.size + 3, 0, none⟩) (by simp) (.bool n)).far (p := ⟨w.heap.size + 3, 1, none⟩) (by simp) (.string ⟨#[]⟩)
    have hG := ((hr'.far (p := ⟨w.heap.size + 2, 0, none⟩) (by simp) (.bool true)).far (p := ⟨w.heap.size + 2, 1, none⟩) (by simp) (.string ⟨#[]⟩)).put n ⟨#[]⟩
    have g0 := hF.c0
    have g1 := hF.c1
    have k0 := hG.c0
    have k1 := hG.c1
    refine bodyPost_ret (v := .tuple #[.agg #[.bool true, .string ⟨#[]⟩], .agg #[.bool n, .string ⟨#[]⟩], .int .i64 10]) (by simp [results, Tryz.results115, go_sem, g0, g1, k0, k1]) rfl ⟨rfl, by go_grown⟩

set_option maxHeartbeats 2000000 in
theorem divide_plain_false (m n : Bool) (hb : (m != n) = false) (u v q r : Nat) (hq : Hid (u / v = q)) (hr : Hid (u % v = r)) (hv0 : 0 < v) (w : World) (hu : (num u).size ≤ 4096) (hv : (num v).size ≤ 4096) (ht : Tab w) :
    Calls Tryz.prog 115 #[.agg #[.bool m, .string (num u)], .agg #[.bool n, .string (num v)]] w fun e w' => DivPost false n q r w e w' := by
  have hb2 : (!m == n) = false := by rw [← hb]; cases m <;> cases n <;> rfl
  go_enter Tryz.func115, Tryz.ntmps115
  go_wp2_with fail
  refine (natDiv_e u v q r hq hr hv0 _ hu hv (ht.over (by go_grown)).tab).mono ?_
  rintro e w1 ⟨rfl, b1⟩
  have hs1 := b1.size
  have B1 := Below.over (w := w) (by go_grown) b1
  obtain ⟨hx, hy, hr, hr'⟩ := bx4 (w := w) (b := m) (c := n) (d := false) (d' := false) b1
  have c0 := hx.c0
  have d0 := hy.c0
  have r0 := hr.c0
  have r1 := hr.c1
  have q0 := hr.f0
  have q1 := hr.f1
  have r0' := hr'.c0
  have r1' := hr'.c1
  have q0' := hr'.f0
  have q1' := hr'.f1
  go_upto_region 5 with fail
  go_region
  all_goals
    go_wp2_with fail
    have hF := ((hr.put false (num q)).far (p := ⟨w.heap.size + 3, 0, none⟩) (by simp) (.bool n)).far (p := ⟨w.heap.size + 3, 1, none⟩) (by simp) (.string (num r))
    have hG := ((hr'.far (p := ⟨w.heap.size + 2, 0, none⟩) (by simp) (.bool false)).far (p := ⟨w.heap.size + 2, 1, none⟩) (by simp) (.string (num q))).put n (num r)
    have g0 := hF.c0
    have g1 := hF.c1
    have k0 := hG.c0
    have k1 := hG.c1
    refine bodyPost_ret (v := .tuple #[.agg #[.bool false, .string (num q)], .agg #[.bool n, .string (num r)], .int .i64 0]) (by simp [results, Tryz.results115, go_sem, g0, g1, k0, k1]) rfl ⟨rfl, by go_grown⟩

set_option maxHeartbeats 2000000 in
theorem divide_even_true (m n : Bool) (hb : (m != n) = true) (u v q r : Nat) (hq : Hid (u / v = q)) (hr : Hid (u % v = r)) (hv0 : 0 < v) (h0 : r = 0) (w : World) (hu : (num u).size ≤ 4096) (hv : (num v).size ≤ 4096) (ht : Tab w) :
    Calls Tryz.prog 115 #[.agg #[.bool m, .string (num u)], .agg #[.bool n, .string (num v)]] w fun e w' => DivPost true n q r w e w' := by
  have hb2 : (!m == n) = true := by rw [← hb]; cases m <;> cases n <;> rfl
  have hz := zero_eq r
  rw [decide_eq_true h0] at hz
  clear h0
  go_enter Tryz.func115, Tryz.ntmps115
  go_wp2_with fail
  refine (natDiv_e u v q r hq hr hv0 _ hu hv (ht.over (by go_grown)).tab).mono ?_
  rintro e w1 ⟨rfl, b1⟩
  have hs1 := b1.size
  have B1 := Below.over (w := w) (by go_grown) b1
  obtain ⟨hx, hy, hr, hr'⟩ := bx4 (w := w) (b := m) (c := n) (d := false) (d' := false) b1
  have c0 := hx.c0
  have d0 := hy.c0
  have r0 := hr.c0
  have r1 := hr.c1
  have q0 := hr.f0
  have q1 := hr.f1
  have r0' := hr'.c0
  have r1' := hr'.c1
  have q0' := hr'.f0
  have q1' := hr'.f1
  go_upto_region 5 with fail
  go_region
  all_goals
    go_wp2_with fail
    have hF := ((hr.put true (num q)).far (p := ⟨w.heap.size + 3, 0, none⟩) (by simp) (.bool n)).far (p := ⟨w.heap.size + 3, 1, none⟩) (by simp) (.string (num r))
    have hG := ((hr'.far (p := ⟨w.heap.size + 2, 0, none⟩) (by simp) (.bool true)).far (p := ⟨w.heap.size + 2, 1, none⟩) (by simp) (.string (num q))).put n (num r)
    have g0 := hF.c0
    have g1 := hF.c1
    have k0 := hG.c0
    have k1 := hG.c1
    refine bodyPost_ret (v := .tuple #[.agg #[.bool true, .string (num q)], .agg #[.bool n, .string (num r)], .int .i64 0]) (by simp [results, Tryz.results115, go_sem, g0, g1, k0, k1]) rfl ⟨rfl, by go_grown⟩

set_option maxHeartbeats 2000000 in
theorem divide_up_true (m n : Bool) (hb : (m != n) = true) (u v q r q' r' : Nat) (hq : Hid (u / v = q)) (hr : Hid (u % v = r)) (hv0 : 0 < v) (h0 : r ≠ 0) (hq' : Hid (q + 1 = q')) (hr1 : Hid (r + r' = v)) (w : World) (hu : (num u).size ≤ 4096) (hv : (num v).size ≤ 4096) (ht : Tab w) :
    Calls Tryz.prog 115 #[.agg #[.bool m, .string (num u)], .agg #[.bool n, .string (num v)]] w fun e w' => DivPost true n q' r' w e w' := by
  have hb2 : (!m == n) = true := by rw [← hb]; cases m <;> cases n <;> rfl
  have hz := zero_eq r
  rw [decide_eq_false h0] at hz
  have hsq : (num q).size ≤ 4096 := by
    rw [num_size] at *
    refine Nat.le_trans (nd_mono ?_) hu
    rw [← hq.out]; exact Nat.div_le_self u v
  have hsr : (num r).size ≤ 4096 := by
    rw [num_size] at *
    refine Nat.le_trans (nd_mono ?_) hu
    rw [← hr.out]; exact Nat.mod_le u v
  have hsq' : (num q').size ≤ 4096 := by
    rw [num_size] at *
    refine Nat.le_trans (nd_mono ?_) hu
    have h1 := Nat.div_add_mod u v
    have h2 := Nat.mod_lt u hv0
    rw [hq.out, hr.out] at h1
    rw [hr.out] at h2
    have h3 : 1 * q ≤ v * q := Nat.mul_le_mul_right q hv0
    have := hq'.out
    omega
  clear h0
  go_enter Tryz.func115, Tryz.ntmps115
  go_wp2_with fail
  refine (natDiv_e u v q r hq hr hv0 _ hu hv (ht.over (by go_grown)).tab).mono ?_
  rintro e w1 ⟨rfl, b1⟩
  have hs1 := b1.size
  have B1 := Below.over (w := w) (by go_grown) b1
  obtain ⟨hx, hy, hr, hr'⟩ := bx4 (w := w) (b := m) (c := n) (d := false) (d' := false) b1
  have c0 := hx.c0
  have d0 := hy.c0
  have r0 := hr.c0
  have r1 := hr.c1
  have q0 := hr.f0
  have q1 := hr.f1
  have r0' := hr'.c0
  have r1' := hr'.c1
  have q0' := hr'.f0
  have q1' := hr'.f1
  have d1 := hy.c1
  go_wp2_with fail
  refine (roundUp_z q r v q' r' hq' hr1 _ hsq hsq' hsr hv (ht.over B1)).mono ?_
  rintro e w2 ⟨rfl, b2⟩
  have hs2 := b2.size
  have B2 := Below.over B1 b2
  have hlt : w.heap.size + 4 ≤ w1.heap.size := by simpa using hs1
  replace hr := hr.below b2 (by omega)
  replace hr' := hr'.below b2 (by omega)
  replace hy := hy.below b2 (by omega)
  clear c0 d0 r0 r1 q0 q1 r0' r1' q0' q1' d1 hx
  have d0 := hy.c0
  have r0 := hr.c0
  have r1 := hr.c1
  have q0 := hr.f0
  have q1 := hr.f1
  have r0' := hr'.c0
  have r1' := hr'.c1
  have q0' := hr'.f0
  have q1' := hr'.f1
  go_upto_region 5 with fail
  go_region
  all_goals
    go_wp2_with fail
    have hF := ((hr.put true (num q')).far (p := ⟨w.heap.size + 3, 0, none⟩) (by simp) (.bool n)).far (p := ⟨w.heap.size + 3, 1, none⟩) (by simp) (.string (num r'))
    have hG := ((hr'.far (p := ⟨w.heap.size + 2, 0, none⟩) (by simp) (.bool true)).far (p := ⟨w.heap.size + 2, 1, none⟩) (by simp) (.string (num q'))).put n (num r')
    have g0 := hF.c0
    have g1 := hF.c1
    have k0 := hG.c0
    have k1 := hG.c1
    refine bodyPost_ret (v := .tuple #[.agg #[.bool true, .string (num q')], .agg #[.bool n, .string (num r')], .int .i64 0]) (by simp [results, Tryz.results115, go_sem, g0, g1, k0, k1]) rfl ⟨rfl, by go_grown⟩

end Go.Proofs.YthamlnolfagpiaaGreatDoor.D

namespace Go.Proofs.YthamlnolfagpiaaGreatDoor.D
open Go.RowKit
set_option maxRecDepth 8000

/-! ### check at one text and at two -/
theorem checkL_bad1 {a : ByteArray} (h : rightI a.data.toList = false) : Hid (checkL [a] = 3) := by
  show _ = _
  rw [checkL, if_neg]
  simp [rI, h]
theorem checkL_bad2 {a b : ByteArray} (h : rightI a.data.toList = false ∨ rightI b.data.toList = false) : Hid (checkL [a, b] = 3) := by
  show _ = _
  rw [checkL, if_neg]
  rcases h with h | h <;> simp [rI, h]
theorem rI_inum (z : Int) : rI (inum z) = true := rightI_inum z
theorem sI_ok {z : Int} (h : nd z.natAbs ≤ 4096) : sI (inum z) = true := by rw [sI, dz_inum]; exact decide_eq_true h
theorem sI_no {z : Int} (h : 4096 < nd z.natAbs) : sI (inum z) = false := by rw [sI, dz_inum]; exact decide_eq_false (by omega)
theorem checkL_ok1 {x : Int} (h : nd x.natAbs ≤ 4096) : Hid (checkL [inum x] = 0) := by
  show _ = _
  rw [checkL, if_pos, if_pos] <;> simp [rI_inum, sI_ok h]
theorem checkL_ok2 {x y : Int} (h : nd x.natAbs ≤ 4096) (h2 : nd y.natAbs ≤ 4096) : Hid (checkL [inum x, inum y] = 0) := by
  show _ = _
  rw [checkL, if_pos, if_pos] <;> simp [rI_inum, sI_ok h, sI_ok h2]
theorem checkL_no1 {x : Int} (h : 4096 < nd x.natAbs) : Hid (checkL [inum x] = 4) := by
  show _ = _
  rw [checkL, if_pos, if_neg] <;> simp [rI_inum, sI_no h]
theorem checkL_no2 {x y : Int} (h : 4096 < nd x.natAbs ∨ 4096 < nd y.natAbs) : Hid (checkL [inum x, inum y] = 4) := by
  show _ = _
  rw [checkL, if_pos, if_neg]
  · rcases h with h | h <;> simp [sI_no h]
  · simp [rI_inum]
theorem check_one (a : ByteArray) (x : Int) (hx : Hid (checkL [a] = x)) (ha : a.size ≤ 1000000000) (w : World) (k : TypeId) :
    Calls Tryz.prog 114 #[.slice (some ⟨w.heap.size, 0, none⟩) 1 1] (w.alloc (.cells #[.string a] k)) fun e w' => e = .returned (.int .i64 x) ∧ Below w.heap.size w w' := by
  refine (check_any [a] 1 w.heap.size 1 rfl x hx _ ?_ (by simp) ?_ (by omega)).mono ?_
  · intro j h
    have : j = 0 := by simpa using h
    subst this
    go_cell
  · intro j h
    have : j = 0 := by simpa using h
    subst this
    exact ha
  · rintro e w' ⟨he, hb⟩
    exact ⟨he, Below.over (by go_grown) hb⟩
theorem check_two (a b : ByteArray) (x : Int) (hx : Hid (checkL [a, b] = x)) (ha : a.size ≤ 1000000000) (hb : b.size ≤ 1000000000) (w : World) (k : TypeId) :
    Calls Tryz.prog 114 #[.slice (some ⟨w.heap.size, 0, none⟩) 2 2] (w.alloc (.cells #[.string a, .string b] k)) fun e w' => e = .returned (.int .i64 x) ∧ Below w.heap.size w w' := by
  have h0 : (w.alloc (.cells #[.string a, .string b] k)).cell? ⟨w.heap.size, 0, none⟩ = some (.string a) := by go_cell
  have h1 : (w.alloc (.cells #[.string a, .string b] k)).cell? ⟨w.heap.size, 1, none⟩ = some (.string b) := by go_cell
  refine (check_any [a, b] 2 w.heap.size 2 rfl x hx _ ?_ (by simp) ?_ (by omega)).mono ?_
  · intro j h
    match j, h with
    | 0, _ => exact h0
    | 1, _ => exact h1
  · intro j h
    match j, h with
    | 0, _ => exact ha
    | 1, _ => exact hb
  · rintro e w' ⟨he, hb⟩
    exact ⟨he, Below.over (by go_grown) hb⟩

theorem inum_le {x : Int} {k : Nat} (h : nd x.natAbs ≤ k) (hk : k ≤ 100000) : (inum x).size ≤ 1000000000 := by have := sz_nd h; omega
theorem num_le {x : Int} (h : nd x.natAbs ≤ 4096) : (num x.natAbs).size ≤ 4096 := by rw [num_size]; exact h

/-! ### Right, Sign, Compare -/
theorem wRight_any (s : ByteArray) (hs : s.size ≤ 100000) (w : World) (_ht : Tab w) :
    Calls Tryz.prog 67 #[.string s] w fun e w' => e = .returned (.bool (rightI s.data.toList)) ∧ Below w.heap.size w w' := right_b s _ (Lib.hid rfl) (by omega) w
theorem wSign_bad (a : ByteArray) (h : rightI a.data.toList = false) (ha : a.size ≤ 100000) (w : World) (_ht : Tab w) :
    Calls Tryz.prog 95 #[.string a] w fun e w' => e = .returned (.int .i64 0) ∧ Below w.heap.size w w' := by
  have H := Lib.hid h
  clear h
  go_enter Tryz.func95, Tryz.ntmps95
  go_wp2_with fail
  refine (right_b a false H (by omega) _).mono ?_
  rintro e w1 ⟨rfl, b1⟩
  go_wp2_with fail
  go_ret
  exact ⟨rfl, b1⟩
theorem wSign_num (z : Int) (ha : (inum z).size ≤ 100000) (w : World) (_ht : Tab w) :
    Calls Tryz.prog 95 #[.string (inum z)] w fun e w' => e = .returned (.int .i64 (sgnI z)) ∧ Below w.heap.size w w' := by
  have hz := zero_eqI z
  rcases Int.lt_trichotomy z 0 with h | h | h
  · have HK : Hid (sgnI z = -1) := by show _ = _; rw [sgnI, if_pos h]
    have HM : Hid (decide (z < 0) = true) := decide_eq_true h
    rw [decide_eq_false (by omega)] at hz
    clear h
    go_enter Tryz.func95, Tryz.ntmps95
    go_wp2_with fail
    refine (right_b (inum z) true (right_inum z) (by omega) _).mono ?_
    rintro e w1 ⟨rfl, b1⟩
    go_wp2_with fail
    refine (parse_z z true HM _).mono ?_
    rintro e w2 ⟨rfl, b2⟩
    have B2 := Below.over b1 b2
    go_wp2_with fail
    show (?K : Act → World → Prop) (Act.put _ _ (Value.bool true)) _
    go_wp2_with fail
    go_ret
    exact ⟨ret_int HK.out.symm, B2⟩
  · have HK : Hid (sgnI z = 0) := by show _ = _; rw [sgnI, if_neg (by omega), if_pos h]
    rw [decide_eq_true h] at hz
    clear h
    go_enter Tryz.func95, Tryz.ntmps95
    go_wp2_with fail
    refine (right_b (inum z) true (right_inum z) (by omega) _).mono ?_
    rintro e w1 ⟨rfl, b1⟩
    go_wp2_with fail
    go_ret
    exact ⟨ret_int HK.out.symm, b1⟩
  · have HK : Hid (sgnI z = 1) := by show _ = _; rw [sgnI, if_neg (by omega), if_neg (by omega)]
    have HM : Hid (decide (z < 0) = false) := decide_eq_false (by omega)
    rw [decide_eq_false (by omega)] at hz
    clear h
    go_enter Tryz.func95, Tryz.ntmps95
    go_wp2_with fail
    refine (right_b (inum z) true (right_inum z) (by omega) _).mono ?_
    rintro e w1 ⟨rfl, b1⟩
    go_wp2_with fail
    refine (parse_z z false HM _).mono ?_
    rintro e w2 ⟨rfl, b2⟩
    have B2 := Below.over b1 b2
    go_wp2_with fail
    show (?K2 : Act → World → Prop) (Act.put _ _ (Value.bool false)) _
    go_wp2_with fail
    go_ret
    exact ⟨ret_int HK.out.symm, B2⟩

end Go.Proofs.YthamlnolfagpiaaGreatDoor.D

namespace Go.Proofs.YthamlnolfagpiaaGreatDoor.D
open Go.RowKit
set_option maxRecDepth 8000

theorem wCompare_bad (a b : ByteArray) (h : rightI a.data.toList = false ∨ rightI b.data.toList = false) (ha : a.size ≤ 100000) (hb : b.size ≤ 100000) (w : World) (_ht : Tab w) :
    Calls Tryz.prog 92 #[.string a, .string b] w fun e w' => e = .returned (.int .i64 0) ∧ Below w.heap.size w w' := by
  by_cases h1 : rightI a.data.toList = false
  · have H1 := Lib.hid h1
    clear h h1
    go_enter Tryz.func92, Tryz.ntmps92
    go_wp2_with fail
    refine (right_b a false H1 (by omega) _).mono ?_
    rintro e w1 ⟨rfl, b1⟩
    go_wp2_with fail
    go_ret
    exact ⟨rfl, b1⟩
  · have H1 : Hid (rightI a.data.toList = true) := Lib.hid (by simpa using h1)
    have H2 : Hid (rightI b.data.toList = false) := h.resolve_left h1
    clear h h1
    go_enter Tryz.func92, Tryz.ntmps92
    go_wp2_with fail
    refine (right_b a true H1 (by omega) _).mono ?_
    rintro e w1 ⟨rfl, b1⟩
    go_wp2_with fail
    refine (right_b b false H2 (by omega) _).mono ?_
    rintro e w2 ⟨rfl, b2⟩
    go_wp2_with fail
    go_ret
    exact ⟨rfl, Below.over b1 b2⟩
theorem cmp_nn (x y c : Int) (hm : Hid (decide (x < 0) = true)) (hn : Hid (decide (y < 0) = true)) (hc : Hid (cmpN y.natAbs x.natAbs = c)) (ha : (inum x).size ≤ 100000) (hb : (inum y).size ≤ 100000) (hx : (num x.natAbs).size ≤ 100000) (hy : (num y.natAbs).size ≤ 100000) (w : World) :
    Calls Tryz.prog 92 #[.string (inum x), .string (inum y)] w fun e w' => e = .returned (.int .i64 c) ∧ Below w.heap.size w w' := by
  go_enter Tryz.func92, Tryz.ntmps92
  go_wp2_with fail
  refine (right_b (inum x) true (right_inum x) (by omega) _).mono ?_
  rintro e w1 ⟨rfl, b1⟩
  go_wp2_with fail
  refine (right_b (inum y) true (right_inum y) (by omega) _).mono ?_
  rintro e w2 ⟨rfl, b2⟩
  have B2 := Below.over b1 b2
  clear b1 b2
  go_wp2_with fail
  refine (parse_z x true hm _).mono ?_
  rintro e w3 ⟨rfl, b3⟩
  have B3 := Below.over B2 b3
  clear B2 b3
  go_wp2_with fail
  refine (parse_z y true hn _).mono ?_
  rintro e w4 ⟨rfl, b4⟩
  have B4 := Below.over B3 b4
  have hs4 := B4.size
  clear B3 b4
  go_wp2_with fail
  refine (cmp_c y.natAbs x.natAbs c hc _ (by omega) (by omega)).mono ?_
  rintro e w' ⟨rfl, rfl⟩
  go_wp2_with fail
  go_ret
  exact ⟨rfl, by go_grown⟩
theorem cmp_pp (x y c : Int) (hm : Hid (decide (x < 0) = false)) (hn : Hid (decide (y < 0) = false)) (hc : Hid (cmpN x.natAbs y.natAbs = c)) (ha : (inum x).size ≤ 100000) (hb : (inum y).size ≤ 100000) (hx : (num x.natAbs).size ≤ 100000) (hy : (num y.natAbs).size ≤ 100000) (w : World) :
    Calls Tryz.prog 92 #[.string (inum x), .string (inum y)] w fun e w' => e = .returned (.int .i64 c) ∧ Below w.heap.size w w' := by
  go_enter Tryz.func92, Tryz.ntmps92
  go_wp2_with fail
  refine (right_b (inum x) true (right_inum x) (by omega) _).mono ?_
  rintro e w1 ⟨rfl, b1⟩
  go_wp2_with fail
  refine (right_b (inum y) true (right_inum y) (by omega) _).mono ?_
  rintro e w2 ⟨rfl, b2⟩
  have B2 := Below.over b1 b2
  clear b1 b2
  go_wp2_with fail
  refine (parse_z x false hm _).mono ?_
  rintro e w3 ⟨rfl, b3⟩
  have B3 := Below.over B2 b3
  clear B2 b3
  go_wp2_with fail
  refine (parse_z y false hn _).mono ?_
  rintro e w4 ⟨rfl, b4⟩
  have B4 := Below.over B3 b4
  have hs4 := B4.size
  clear B3 b4
  go_wp2_with fail
  refine (cmp_c x.natAbs y.natAbs c hc _ (by omega) (by omega)).mono ?_
  rintro e w' ⟨rfl, rfl⟩
  go_wp2_with fail
  go_ret
  exact ⟨rfl, by go_grown⟩
theorem cmp_np (x y c : Int) (hm : Hid (decide (x < 0) = true)) (hn : Hid (decide (y < 0) = false)) (hc : c = -1) (ha : (inum x).size ≤ 100000) (hb : (inum y).size ≤ 100000) (_hx : (num x.natAbs).size ≤ 100000) (_hy : (num y.natAbs).size ≤ 100000) (w : World) :
    Calls Tryz.prog 92 #[.string (inum x), .string (inum y)] w fun e w' => e = .returned (.int .i64 c) ∧ Below w.heap.size w w' := by
  subst hc
  go_enter Tryz.func92, Tryz.ntmps92
  go_wp2_with fail
  refine (right_b (inum x) true (right_inum x) (by omega) _).mono ?_
  rintro e w1 ⟨rfl, b1⟩
  go_wp2_with fail
  refine (right_b (inum y) true (right_inum y) (by omega) _).mono ?_
  rintro e w2 ⟨rfl, b2⟩
  have B2 := Below.over b1 b2
  clear b1 b2
  go_wp2_with fail
  refine (parse_z x true hm _).mono ?_
  rintro e w3 ⟨rfl, b3⟩
  have B3 := Below.over B2 b3
  clear B2 b3
  go_wp2_with fail
  refine (parse_z y false hn _).mono ?_
  rintro e w4 ⟨rfl, b4⟩
  have B4 := Below.over B3 b4
  have hs4 := B4.size
  clear B3 b4
  go_wp2_with fail
  go_ret
  exact ⟨rfl, by go_grown⟩
theorem cmp_pn (x y c : Int) (hm : Hid (decide (x < 0) = false)) (hn : Hid (decide (y < 0) = true)) (hc : c = 1) (ha : (inum x).size ≤ 100000) (hb : (inum y).size ≤ 100000) (_hx : (num x.natAbs).size ≤ 100000) (_hy : (num y.natAbs).size ≤ 100000) (w : World) :
    Calls Tryz.prog 92 #[.string (inum x), .string (inum y)] w fun e w' => e = .returned (.int .i64 c) ∧ Below w.heap.size w w' := by
  subst hc
  go_enter Tryz.func92, Tryz.ntmps92
  go_wp2_with fail
  refine (right_b (inum x) true (right_inum x) (by omega) _).mono ?_
  rintro e w1 ⟨rfl, b1⟩
  go_wp2_with fail
  refine (right_b (inum y) true (right_inum y) (by omega) _).mono ?_
  rintro e w2 ⟨rfl, b2⟩
  have B2 := Below.over b1 b2
  clear b1 b2
  go_wp2_with fail
  refine (parse_z x false hm _).mono ?_
  rintro e w3 ⟨rfl, b3⟩
  have B3 := Below.over B2 b3
  clear B2 b3
  go_wp2_with fail
  refine (parse_z y true hn _).mono ?_
  rintro e w4 ⟨rfl, b4⟩
  have B4 := Below.over B3 b4
  have hs4 := B4.size
  clear B3 b4
  go_wp2_with fail
  go_ret
  exact ⟨rfl, by go_grown⟩
theorem num_inum (x : Int) : (num x.natAbs).size ≤ (inum x).size := by rw [num_size, inum_size]; exact Nat.le_add_right _ _
theorem wCompare_num (x y : Int) (ha : (inum x).size ≤ 100000) (hb : (inum y).size ≤ 100000) (w : World) (_ht : Tab w) :
    Calls Tryz.prog 92 #[.string (inum x), .string (inum y)] w fun e w' => e = .returned (.int .i64 (cmpI x y)) ∧ Below w.heap.size w w' := by
  have hx := Nat.le_trans (num_inum x) ha
  have hy := Nat.le_trans (num_inum y) hb
  by_cases h1 : x < 0
  · by_cases h2 : y < 0
    · exact cmp_nn x y _ (Lib.hid (decide_eq_true h1)) (Lib.hid (decide_eq_true h2)) (Lib.hid (cmpI_neg x y h1 h2)) ha hb hx hy w
    · exact cmp_np x y _ (Lib.hid (decide_eq_true h1)) (Lib.hid (decide_eq_false h2)) (by rw [cmpI, if_pos (by omega)]) ha hb hx hy w
  · by_cases h2 : y < 0
    · exact cmp_pn x y _ (Lib.hid (decide_eq_false h1)) (Lib.hid (decide_eq_true h2)) (by rw [cmpI, if_neg (by omega), if_neg (by omega)]) ha hb hx hy w
    · exact cmp_pp x y _ (Lib.hid (decide_eq_false h1)) (Lib.hid (decide_eq_false h2)) (Lib.hid (cmpI_pos x y (by omega) (by omega))) ha hb hx hy w

/-! ### Of and Int -/
theorem itoa_inum (z : Int) : Lib.itoa z = inumL z := by
  unfold Lib.itoa inumL
  by_cases h : z < 0
  · rw [if_pos h, if_pos h]
  · rw [if_neg h, if_neg h, show z.toNat = z.natAbs by omega]
theorem below_grow3 {B : Nat} (w : World) (h : B ≤ w.heap.size) (os : Array Obj) : Below B w (Sort.grow w os) :=
  ⟨rfl, rfl, rfl, by simp [Sort.grow], fun k hk => by simp only [Sort.grow]; rw [Array.getElem?_append_left (by omega)]⟩
theorem wOf_any (z : Int) (h1 : -9223372036854775808 ≤ z) (h2 : z ≤ 9223372036854775807) (w : World) (ht : Tab w) :
    Calls Tryz.prog 71 #[.int .i64 z] w fun e w' => e = .returned (.string (inum z)) ∧ Below w.heap.size w w' := by
  have HI : Hid ((⟨(Lib.itoa z).toArray⟩ : ByteArray) = inum z) := by show _ = _; rw [itoa_inum]; rfl
  go_enter Tryz.func71, Tryz.ntmps71
  go_wp2_with fail
  refine (Tryz.strconv_Itoa z h1 h2 _ ht.tab).mono ?_
  rintro e w' ⟨rfl, k, os, hw⟩
  have hb : Below w.heap.size w w' := by
    rw [hw]
    exact (below_drewN (Below.refl _ w) k).trans (below_grow3 (w.drewN k) (Nat.le_refl _) os)
  clear hw
  go_wp2_with fail
  go_ret
  exact ⟨ret_str HI.out, hb⟩

theorem atoi_in {z : Int} (h1 : -9223372036854775808 ≤ z) (h2 : z ≤ 9223372036854775807) : Lib.atoiAll (inumL z) = .ok z := by
  rw [← Lib.parseIntB_64]
  obtain ⟨c, t, hc, _, _⟩ := dec_head z.natAbs
  by_cases h : z < 0
  · rw [inumL_neg h, parse_neg _ (by rw [hc]; simp) (dec_digs _), dec_val, if_pos (by omega), show -(z.natAbs : Int) = z by omega]
  · rw [inumL_pos (by omega), parse_pos _ (by rw [hc]; simp) (dec_digs _), dec_val, if_pos (by omega), show (z.natAbs : Int) = z by omega]
theorem atoi_out {z : Int} (h1 : z < -9223372036854775808 ∨ 9223372036854775807 < z) : Lib.atoiAll (inumL z) = .range := by
  rw [← Lib.parseIntB_64]
  obtain ⟨c, t, hc, _, _⟩ := dec_head z.natAbs
  by_cases h : z < 0
  · rw [inumL_neg h, parse_neg _ (by rw [hc]; simp) (dec_digs _), dec_val, if_neg (by omega)]
  · rw [inumL_pos (by omega), parse_pos _ (by rw [hc]; simp) (dec_digs _), dec_val, if_neg (by omega)]
theorem big_nd {z : Int} (h : 19 < nd z.natAbs) : z < -9223372036854775808 ∨ 9223372036854775807 < z := by
  apply Decidable.byContradiction
  intro hc
  have := nd_le z.natAbs 18 (by omega)
  omega
theorem wNeg_bad (a : ByteArray) (h : rightI a.data.toList = false) (ha : a.size ≤ 100000) (w : World) (_ht : Tab w) :
    Calls Tryz.prog 87 #[.string a] w fun e w' => e = .returned (.tuple #[.string ⟨#[]⟩, .int .i64 3]) ∧ Below w.heap.size w w' := by
  go_enter Tryz.func87, Tryz.ntmps87
  go_wp2_with fail
  refine (check_one a 3 (checkL_bad1 h) (by omega) _ _).mono ?_
  rintro e w1 ⟨rfl, b1⟩
  go_wp2_with fail
  go_ret2
  exact ⟨rfl, b1⟩
theorem wNeg_size (x : Int) (h : 4096 < nd x.natAbs) (ha : (inum x).size ≤ 100000) (w : World) (_ht : Tab w) :
    Calls Tryz.prog 87 #[.string (inum x)] w fun e w' => e = .returned (.tuple #[.string ⟨#[]⟩, .int .i64 4]) ∧ Below w.heap.size w w' := by
  go_enter Tryz.func87, Tryz.ntmps87
  go_wp2_with fail
  refine (check_one (inum x) 4 (checkL_no1 h) (by omega) _ _).mono ?_
  rintro e w1 ⟨rfl, b1⟩
  go_wp2_with fail
  go_ret2
  exact ⟨rfl, b1⟩
theorem neg_sgn (x : Int) (m : Bool) (hm : decide (x < 0) = m) : sgn (!m) x.natAbs = -x := by
  subst hm
  unfold sgn
  by_cases h : x < 0
  · simp [h]; omega
  · simp [h]; omega
theorem wNeg_num (x : Int) (hx : nd x.natAbs ≤ 4096) (w : World) (_ht : Tab w) :
    Calls Tryz.prog 87 #[.string (inum x)] w fun e w' => e = .returned (.tuple #[.string (inum (-x)), .int .i64 0]) ∧ Below w.heap.size w w' := by
  obtain ⟨m, hm⟩ : ∃ m, decide (x < 0) = m := ⟨_, rfl⟩
  have HM := Lib.hid hm
  have HS : Hid (sgn (!m) x.natAbs = -x) := neg_sgn x m hm
  have hn := num_le hx
  clear hm
  go_enter Tryz.func87, Tryz.ntmps87
  go_wp2_with fail
  refine (check_one (inum x) 0 (checkL_ok1 hx) (inum_le hx (by omega)) _ _).mono ?_
  rintro e w1 ⟨rfl, b1⟩
  go_wp2_with fail
  refine (parse_z x m HM _).mono ?_
  rintro e w2 ⟨rfl, b2⟩
  go_wp2_with fail
  refine (opposite_any m (num x.natAbs) _).mono ?_
  rintro e w3 ⟨rfl, b3⟩
  go_wp2_with fail
  refine (format_z (!m) x.natAbs (-x) HS (by omega) _).mono ?_
  rintro e w4 ⟨rfl, b4⟩
  go_wp2_with fail
  go_ret2
  exact ⟨rfl, Below.over (Below.over (Below.over b1 b2) b3) b4⟩
theorem wAdd_bad (a b : ByteArray) (h : rightI a.data.toList = false ∨ rightI b.data.toList = false) (ha : a.size ≤ 100000) (hb : b.size ≤ 100000) (w : World) (_ht : Tab w) :
    Calls Tryz.prog 127 #[.string a, .string b] w fun e w' => e = .returned (.tuple #[.string ⟨#[]⟩, .int .i64 3]) ∧ Below w.heap.size w w' := by
  have H := Lib.hid h
  clear h
  go_enter Tryz.func127, Tryz.ntmps127
  go_wp2_with fail
  refine (check_two a b 3 (checkL_bad2 H.out) (by omega) (by omega) _ _).mono ?_
  rintro e w1 ⟨rfl, b1⟩
  go_wp2_with fail
  go_ret2
  exact ⟨rfl, b1⟩
theorem wAdd_size (x y : Int) (h : 4096 < nd x.natAbs ∨ 4096 < nd y.natAbs) (hx : (inum x).size ≤ 100000) (hy : (inum y).size ≤ 100000) (w : World) (_ht : Tab w) :
    Calls Tryz.prog 127 #[.string (inum x), .string (inum y)] w fun e w' => e = .returned (.tuple #[.string ⟨#[]⟩, .int .i64 4]) ∧ Below w.heap.size w w' := by
  have H := Lib.hid h
  clear h
  go_enter Tryz.func127, Tryz.ntmps127
  go_wp2_with fail
  refine (check_two (inum x) (inum y) 4 (checkL_no2 H.out) (by omega) (by omega) _ _).mono ?_
  rintro e w1 ⟨rfl, b1⟩
  go_wp2_with fail
  go_ret2
  exact ⟨rfl, b1⟩
theorem wMul_bad (a b : ByteArray) (h : rightI a.data.toList = false ∨ rightI b.data.toList = false) (ha : a.size ≤ 100000) (hb : b.size ≤ 100000) (w : World) (_ht : Tab w) :
    Calls Tryz.prog 90 #[.string a, .string b] w fun e w' => e = .returned (.tuple #[.string ⟨#[]⟩, .int .i64 3]) ∧ Below w.heap.size w w' := by
  have H := Lib.hid h
  clear h
  go_enter Tryz.func90, Tryz.ntmps90
  go_wp2_with fail
  refine (check_two a b 3 (checkL_bad2 H.out) (by omega) (by omega) _ _).mono ?_
  rintro e w1 ⟨rfl, b1⟩
  go_wp2_with fail
  go_ret2
  exact ⟨rfl, b1⟩
theorem wMul_size (x y : Int) (h : 4096 < nd x.natAbs ∨ 4096 < nd y.natAbs) (hx : (inum x).size ≤ 100000) (hy : (inum y).size ≤ 100000) (w : World) (_ht : Tab w) :
    Calls Tryz.prog 90 #[.string (inum x), .string (inum y)] w fun e w' => e = .returned (.tuple #[.string ⟨#[]⟩, .int .i64 4]) ∧ Below w.heap.size w w' := by
  have H := Lib.hid h
  clear h
  go_enter Tryz.func90, Tryz.ntmps90
  go_wp2_with fail
  refine (check_two (inum x) (inum y) 4 (checkL_no2 H.out) (by omega) (by omega) _ _).mono ?_
  rintro e w1 ⟨rfl, b1⟩
  go_wp2_with fail
  go_ret2
  exact ⟨rfl, b1⟩
theorem sgn_dec (x : Int) (m : Bool) (hm : decide (x < 0) = m) : sgn m x.natAbs = x := by rw [← hm]; exact sgn_self x
theorem diff_small (m n : Bool) (u v : Nat) (z : Int) (hz : sgn m u + sgn n v = z) (hmn : (m == n) = false) (hu : nd u ≤ 4096) (hv : nd v ≤ 4096) : nd z.natAbs ≤ 4096 := by
  by_cases h : u ≤ v
  · refine Nat.le_trans (nd_mono ?_) hv
    rw [← hz]; cases m <;> cases n <;> simp [sgn] at hmn ⊢ <;> omega
  · refine Nat.le_trans (nd_mono ?_) hu
    rw [← hz]; cases m <;> cases n <;> simp [sgn] at hmn ⊢ <;> omega
theorem sum_z (m n : Bool) (u v : Nat) (z : Int) (hz : Hid (sgn m u + sgn n v = z)) (w : World) (hu : (num u).size ≤ 4096) (hv : (num v).size ≤ 4096) (h : nd z.natAbs ≤ 4096) (ht : Tab w) :
    Calls Tryz.prog 146 #[.agg #[.bool m, .string (num u)], .agg #[.bool n, .string (num v)]] w fun e w' => SumPost z w e w' := by
  by_cases hmn : (m == n) = false
  · exact sum_diff m n hmn u v z hz w hu hv ht
  · obtain rfl : m = n := by simpa using hmn
    exact sum_same m u v z hz w hu hv h ht
theorem sum_zo (m n : Bool) (u v : Nat) (z : Int) (hz : Hid (sgn m u + sgn n v = z)) (w : World) (hu : (num u).size ≤ 4096) (hv : (num v).size ≤ 4096) (h : 4096 < nd z.natAbs) (ht : Tab w) :
    Calls Tryz.prog 146 #[.agg #[.bool m, .string (num u)], .agg #[.bool n, .string (num v)]] w fun e w' => OverPost w e w' := by
  by_cases hmn : (m == n) = false
  · have := diff_small m n u v z hz.out hmn (by rw [num_size] at hu; exact hu) (by rw [num_size] at hv; exact hv)
    omega
  · obtain rfl : m = n := by simpa using hmn
    exact sum_over m u v z hz w hu hv h ht
theorem product_zz (m n : Bool) (u v : Nat) (z : Int) (hz : Hid (sgn m u * sgn n v = z)) (w : World) (hu : (num u).size ≤ 4096) (hv : (num v).size ≤ 4096) (h : nd z.natAbs ≤ 4096) (ht : Tab w) :
    Calls Tryz.prog 121 #[.agg #[.bool m, .string (num u)], .agg #[.bool n, .string (num v)]] w fun e w' => SumPost z w e w' := product_z m n _ rfl u v z hz w hu hv h ht
theorem product_zo (m n : Bool) (u v : Nat) (z : Int) (hz : Hid (sgn m u * sgn n v = z)) (w : World) (hu : (num u).size ≤ 4096) (hv : (num v).size ≤ 4096) (h : 4096 < nd z.natAbs) (ht : Tab w) :
    Calls Tryz.prog 121 #[.agg #[.bool m, .string (num u)], .agg #[.bool n, .string (num v)]] w fun e w' => OverPost w e w' := product_over m n _ rfl u v z hz w hu hv h ht
set_option maxHeartbeats 400000 in
theorem wAdd_num (x y z : Int) (hz : Hid (x + y = z)) (hx : nd x.natAbs ≤ 4096) (hy : nd y.natAbs ≤ 4096) (h : nd z.natAbs ≤ 4096) (w : World) (ht : Tab w) :
    Calls Tryz.prog 127 #[.string (inum x), .string (inum y)] w fun e w' => e = .returned (.tuple #[.string (inum z), .int .i64 0]) ∧ Below w.heap.size w w' := by
  obtain ⟨m, hm⟩ : ∃ m, decide (x < 0) = m := ⟨_, rfl⟩
  obtain ⟨n, hn⟩ : ∃ n, decide (y < 0) = n := ⟨_, rfl⟩
  have HM := Lib.hid hm
  have HN := Lib.hid hn
  have HS : Hid (sgn m x.natAbs + sgn n y.natAbs = z) := by show _ = _; rw [sgn_dec x m hm, sgn_dec y n hn]; exact hz.out
  have hnx := num_le hx
  have hny := num_le hy
  have hnz : (num z.natAbs).size ≤ 100000 := Nat.le_trans (num_le h) (by omega)
  clear hm hn hz
  go_enter Tryz.func127, Tryz.ntmps127
  go_wp2_with fail
  refine (check_two (inum x) (inum y) 0 (checkL_ok2 hx hy) (inum_le hx (by omega)) (inum_le hy (by omega)) _ _).mono ?_
  rintro e w1 ⟨rfl, b1⟩
  go_wp2_with fail
  refine (parse_z x m HM _).mono ?_
  rintro e w2 ⟨rfl, b2⟩
  have B2 := Below.over b1 b2
  go_wp2_with fail
  refine (parse_z y n HN _).mono ?_
  rintro e w3 ⟨rfl, b3⟩
  have B3 := Below.over B2 b3
  go_wp2_with fail
  refine (sum_z m n x.natAbs y.natAbs z HS _ hnx hny h (ht.over B3)).mono ?_
  rintro e w5 ⟨b, rfl, HB, b5⟩
  have B5 := Below.over B3 b5
  go_wp2_with fail
  refine (result_ok b z.natAbs z HB hnz _).mono ?_
  rintro e w6 ⟨rfl, b6⟩
  go_wp2_with fail
  go_ret2
  exact ⟨rfl, Below.over B5 b6⟩
set_option maxHeartbeats 400000 in
theorem wAdd_over (x y z : Int) (hz : Hid (x + y = z)) (hx : nd x.natAbs ≤ 4096) (hy : nd y.natAbs ≤ 4096) (h : 4096 < nd z.natAbs) (w : World) (ht : Tab w) :
    Calls Tryz.prog 127 #[.string (inum x), .string (inum y)] w fun e w' => e = .returned (.tuple #[.string ⟨#[]⟩, .int .i64 4]) ∧ Below w.heap.size w w' := by
  obtain ⟨m, hm⟩ : ∃ m, decide (x < 0) = m := ⟨_, rfl⟩
  obtain ⟨n, hn⟩ : ∃ n, decide (y < 0) = n := ⟨_, rfl⟩
  have HM := Lib.hid hm
  have HN := Lib.hid hn
  have HS : Hid (sgn m x.natAbs + sgn n y.natAbs = z) := by show _ = _; rw [sgn_dec x m hm, sgn_dec y n hn]; exact hz.out
  have hnx := num_le hx
  have hny := num_le hy
  clear hm hn hz
  go_enter Tryz.func127, Tryz.ntmps127
  go_wp2_with fail
  refine (check_two (inum x) (inum y) 0 (checkL_ok2 hx hy) (inum_le hx (by omega)) (inum_le hy (by omega)) _ _).mono ?_
  rintro e w1 ⟨rfl, b1⟩
  go_wp2_with fail
  refine (parse_z x m HM _).mono ?_
  rintro e w2 ⟨rfl, b2⟩
  have B2 := Below.over b1 b2
  go_wp2_with fail
  refine (parse_z y n HN _).mono ?_
  rintro e w3 ⟨rfl, b3⟩
  have B3 := Below.over B2 b3
  go_wp2_with fail
  refine (sum_zo m n x.natAbs y.natAbs z HS _ hnx hny h (ht.over B3)).mono ?_
  rintro e w5 ⟨b, rfl, b5⟩
  have B5 := Below.over B3 b5
  go_wp2_with fail
  refine (result_over _ b ⟨#[]⟩ rfl _).mono ?_
  rintro e w6 ⟨rfl, b6⟩
  go_wp2_with fail
  go_ret2
  exact ⟨rfl, Below.over B5 b6⟩
set_option maxHeartbeats 400000 in
theorem wMul_num (x y z : Int) (hz : Hid (x * y = z)) (hx : nd x.natAbs ≤ 4096) (hy : nd y.natAbs ≤ 4096) (h : nd z.natAbs ≤ 4096) (w : World) (ht : Tab w) :
    Calls Tryz.prog 90 #[.string (inum x), .string (inum y)] w fun e w' => e = .returned (.tuple #[.string (inum z), .int .i64 0]) ∧ Below w.heap.size w w' := by
  obtain ⟨m, hm⟩ : ∃ m, decide (x < 0) = m := ⟨_, rfl⟩
  obtain ⟨n, hn⟩ : ∃ n, decide (y < 0) = n := ⟨_, rfl⟩
  have HM := Lib.hid hm
  have HN := Lib.hid hn
  have HS : Hid (sgn m x.natAbs * sgn n y.natAbs = z) := by show _ = _; rw [sgn_dec x m hm, sgn_dec y n hn]; exact hz.out
  have hnx := num_le hx
  have hny := num_le hy
  have hnz : (num z.natAbs).size ≤ 100000 := Nat.le_trans (num_le h) (by omega)
  clear hm hn hz
  go_enter Tryz.func90, Tryz.ntmps90
  go_wp2_with fail
  refine (check_two (inum x) (inum y) 0 (checkL_ok2 hx hy) (inum_le hx (by omega)) (inum_le hy (by omega)) _ _).mono ?_
  rintro e w1 ⟨rfl, b1⟩
  go_wp2_with fail
  refine (parse_z x m HM _).mono ?_
  rintro e w2 ⟨rfl, b2⟩
  have B2 := Below.over b1 b2
  go_wp2_with fail
  refine (parse_z y n HN _).mono ?_
  rintro e w3 ⟨rfl, b3⟩
  have B3 := Below.over B2 b3
  go_wp2_with fail
  refine (product_zz m n x.natAbs y.natAbs z HS _ hnx hny h (ht.over B3)).mono ?_
  rintro e w5 ⟨b, rfl, HB, b5⟩
  have B5 := Below.over B3 b5
  go_wp2_with fail
  refine (result_ok b z.natAbs z HB hnz _).mono ?_
  rintro e w6 ⟨rfl, b6⟩
  go_wp2_with fail
  go_ret2
  exact ⟨rfl, Below.over B5 b6⟩
set_option maxHeartbeats 400000 in
theorem wMul_over (x y z : Int) (hz : Hid (x * y = z)) (hx : nd x.natAbs ≤ 4096) (hy : nd y.natAbs ≤ 4096) (h : 4096 < nd z.natAbs) (w : World) (ht : Tab w) :
    Calls Tryz.prog 90 #[.string (inum x), .string (inum y)] w fun e w' => e = .returned (.tuple #[.string ⟨#[]⟩, .int .i64 4]) ∧ Below w.heap.size w w' := by
  obtain ⟨m, hm⟩ : ∃ m, decide (x < 0) = m := ⟨_, rfl⟩
  obtain ⟨n, hn⟩ : ∃ n, decide (y < 0) = n := ⟨_, rfl⟩
  have HM := Lib.hid hm
  have HN := Lib.hid hn
  have HS : Hid (sgn m x.natAbs * sgn n y.natAbs = z) := by show _ = _; rw [sgn_dec x m hm, sgn_dec y n hn]; exact hz.out
  have hnx := num_le hx
  have hny := num_le hy
  clear hm hn hz
  go_enter Tryz.func90, Tryz.ntmps90
  go_wp2_with fail
  refine (check_two (inum x) (inum y) 0 (checkL_ok2 hx hy) (inum_le hx (by omega)) (inum_le hy (by omega)) _ _).mono ?_
  rintro e w1 ⟨rfl, b1⟩
  go_wp2_with fail
  refine (parse_z x m HM _).mono ?_
  rintro e w2 ⟨rfl, b2⟩
  have B2 := Below.over b1 b2
  go_wp2_with fail
  refine (parse_z y n HN _).mono ?_
  rintro e w3 ⟨rfl, b3⟩
  have B3 := Below.over B2 b3
  go_wp2_with fail
  refine (product_zo m n x.natAbs y.natAbs z HS _ hnx hny h (ht.over B3)).mono ?_
  rintro e w5 ⟨b, rfl, b5⟩
  have B5 := Below.over B3 b5
  go_wp2_with fail
  refine (result_over _ b ⟨#[]⟩ rfl _).mono ?_
  rintro e w6 ⟨rfl, b6⟩
  go_wp2_with fail
  go_ret2
  exact ⟨rfl, Below.over B5 b6⟩
theorem wDiv_bad (a b : ByteArray) (h : rightI a.data.toList = false ∨ rightI b.data.toList = false) (ha : a.size ≤ 100000) (hb : b.size ≤ 100000) (w : World) (_ht : Tab w) :
    Calls Tryz.prog 83 #[.string a, .string b] w fun e w' => e = .returned (.tuple #[.string ⟨#[]⟩, .string ⟨#[]⟩, .int .i64 3]) ∧ Below w.heap.size w w' := by
  have H := Lib.hid h
  clear h
  go_enter Tryz.func83, Tryz.ntmps83
  go_wp2_with fail
  refine (check_two a b 3 (checkL_bad2 H.out) (by omega) (by omega) _ _).mono ?_
  rintro e w1 ⟨rfl, b1⟩
  go_wp2_with fail
  go_ret3
  exact ⟨rfl, b1⟩
theorem wDiv_size (x y : Int) (h : 4096 < nd x.natAbs ∨ 4096 < nd y.natAbs) (hx : (inum x).size ≤ 100000) (hy : (inum y).size ≤ 100000) (w : World) (_ht : Tab w) :
    Calls Tryz.prog 83 #[.string (inum x), .string (inum y)] w fun e w' => e = .returned (.tuple #[.string ⟨#[]⟩, .string ⟨#[]⟩, .int .i64 4]) ∧ Below w.heap.size w w' := by
  have H := Lib.hid h
  clear h
  go_enter Tryz.func83, Tryz.ntmps83
  go_wp2_with fail
  refine (check_two (inum x) (inum y) 4 (checkL_no2 H.out) (by omega) (by omega) _ _).mono ?_
  rintro e w1 ⟨rfl, b1⟩
  go_wp2_with fail
  go_ret3
  exact ⟨rfl, b1⟩
theorem format_w (b : Bool) (n : Nat) (z : Int) (hz : Hid (sgn b n = z)) (hn : (num n).size ≤ 100000) (w : World) :
    Calls Tryz.prog 116 #[.agg #[.bool b, .string (num n)]] w fun e w' => e = .returned (.string (inum z)) ∧ w.alloc (.cells #[.bool b, .string (num n)] 101) = w' := by
  have hq := zero_eq n
  cases b
  · have HK : Hid (inum z = num n) := by show _ = _; rw [← hz.out]; exact inum_nat n
    clear hq
    go_enter Tryz.func116, Tryz.ntmps116
    go_wp2_with fail
    go_ret
    exact ⟨ret_str HK.out.symm, rfl⟩
  · by_cases h : n = 0
    · have HK : Hid (inum z = num n) := by show _ = _; rw [← hz.out, h]; exact inum_nat 0
      rw [decide_eq_true h] at hq
      clear h
      go_enter Tryz.func116, Tryz.ntmps116
      go_wp2_with fail
      go_ret
      exact ⟨ret_str HK.out.symm, rfl⟩
    · have HK : Hid (inum z = (⟨#[45]⟩ : ByteArray) ++ num n) := by show _ = _; rw [← hz.out]; exact (neg_text n (by omega)).symm
      rw [decide_eq_false h] at hq
      clear h
      go_enter Tryz.func116, Tryz.ntmps116
      go_wp2_with fail
      go_ret
      exact ⟨ret_str HK.out.symm, rfl⟩

theorem divide_z (x y : Int) (h0 : y ≠ 0) (m n : Bool) (hm : decide (x < 0) = m) (hn : decide (y < 0) = n) (hx : nd x.natAbs ≤ 4096) (hy : nd y.natAbs ≤ 4096) :
    ∃ (Q R : Nat) (b : Bool), sgn b Q = fdv x y ∧ sgn n R = fmd x y ∧ Q ≤ x.natAbs + 1 ∧ R ≤ y.natAbs ∧
      ∀ w, Tab w → Calls Tryz.prog 115 #[.agg #[.bool m, .string (num x.natAbs)], .agg #[.bool n, .string (num y.natAbs)]] w fun e w' => DivPost b n Q R w e w' := by
  have hv0 : 0 < y.natAbs := by omega
  have hu := num_le hx
  have hv := num_le hy
  have hlt := Nat.mod_lt x.natAbs hv0
  have hle := Nat.div_le_self x.natAbs y.natAbs
  by_cases hb : (m != n) = false
  · have hl : low x y = false := by rw [low, hm, hn, hb]; rfl
    refine ⟨x.natAbs / y.natAbs, x.natAbs % y.natAbs, false, ?_, ?_, by omega, by omega, fun w ht => divide_plain_false m n hb _ _ _ _ (Lib.hid rfl) (Lib.hid rfl) hv0 w hu hv ht⟩
    · rw [fdv, hl, hm, hn, hb]; rfl
    · rw [fmd, hl, hn]; rfl
  · have hb : (m != n) = true := by simpa using hb
    by_cases hr : x.natAbs % y.natAbs = 0
    · have hl : low x y = false := by rw [low, hr, decide_eq_false (Nat.lt_irrefl 0), Bool.and_false]
      refine ⟨x.natAbs / y.natAbs, x.natAbs % y.natAbs, true, ?_, ?_, by omega, by omega, fun w ht => divide_even_true m n hb _ _ _ _ (Lib.hid rfl) (Lib.hid rfl) hv0 hr w hu hv ht⟩
      · rw [fdv, hl, hm, hn, hb]; rfl
      · rw [fmd, hl, hn]; rfl
    · have hl : low x y = true := by rw [low, hm, hn, hb, decide_eq_true (by omega)]; rfl
      refine ⟨x.natAbs / y.natAbs + 1, y.natAbs - x.natAbs % y.natAbs, true, ?_, ?_, by omega, by omega, fun w ht => divide_up_true m n hb _ _ _ _ _ _ (Lib.hid rfl) (Lib.hid rfl) hv0 hr (Lib.hid rfl) (Lib.hid (by omega)) w hu hv ht⟩
      · rw [fdv, hl, hm, hn, hb]; rfl
      · rw [fmd, hl, hn]; rfl

set_option maxHeartbeats 1000000 in
theorem wDiv_num (x y q r : Int) (h0 : y ≠ 0) (hq : Hid (fdv x y = q)) (hr : Hid (fmd x y = r)) (hx : nd x.natAbs ≤ 4096) (hy : nd y.natAbs ≤ 4096) (w : World) (ht : Tab w) :
    Calls Tryz.prog 83 #[.string (inum x), .string (inum y)] w fun e w' => e = .returned (.tuple #[.string (inum q), .string (inum r), .int .i64 0]) ∧ Below w.heap.size w w' := by
  obtain ⟨m, hm⟩ : ∃ m, decide (x < 0) = m := ⟨_, rfl⟩
  obtain ⟨n, hn⟩ : ∃ n, decide (y < 0) = n := ⟨_, rfl⟩
  obtain ⟨Q, R, b, hQ, hR, hQ1, hR1, hD⟩ := divide_z x y h0 m n hm hn hx hy
  have HM := Lib.hid hm
  have HN := Lib.hid hn
  have HQ : Hid (sgn b Q = q) := by show _ = _; rw [hQ]; exact hq.out
  have HR : Hid (sgn n R = r) := by show _ = _; rw [hR]; exact hr.out
  have HD := Lib.hid hD
  have hnQ : (num Q).size ≤ 100000 := by
    rw [num_size]
    have h1 := nd_mono hQ1
    have h2 := nd_add x.natAbs 1 4096 hx (Nat.le_trans (nd_le 1 0 (by omega)) (by omega))
    have h3 := Nat.le_trans h1 h2
    exact Nat.le_trans h3 (by omega)
  have hnR : (num R).size ≤ 100000 := by
    rw [num_size]
    exact Nat.le_trans (Nat.le_trans (nd_mono hR1) hy) (by omega)
  clear hm hn hQ hR hD hq hr hQ1 hR1
  go_enter Tryz.func83, Tryz.ntmps83
  go_wp2_with fail
  refine (check_two (inum x) (inum y) 0 (checkL_ok2 hx hy) (inum_le hx (by omega)) (inum_le hy (by omega)) _ _).mono ?_
  rintro e w1 ⟨rfl, b1⟩
  go_wp2_with fail
  refine (parse_z x m HM _).mono ?_
  rintro e w2 ⟨rfl, b2⟩
  have B2 := Below.over b1 b2
  go_wp2_with fail
  refine (parse_z y n HN _).mono ?_
  rintro e w3 ⟨rfl, b3⟩
  have B3 := Below.over B2 b3
  go_wp2_with fail
  refine (HD.out _ (ht.over B3)).mono ?_
  rintro e w4 ⟨rfl, b4⟩
  have B4 := Below.over B3 b4
  have hs4 := B4.size
  clear b1 b2 b3 b4 B2 B3 HD HM HN
  go_upto_region 7 with fail
  go_region_with (first
    | (go_at_call 116; with_reducible refine (format_w b Q q HQ hnQ _).mono ?_; rintro e w' ⟨rfl, rfl⟩)
    | (go_at_call 116; with_reducible refine (format_w n R r HR hnR _).mono ?_; rintro e w' ⟨rfl, rfl⟩))
  all_goals
    go_wp2_with fail
    go_ret3
    exact ⟨rfl, by go_grown⟩

theorem inum_zero_d : (⟨#[48]⟩ : ByteArray) = inum 0 := inum_zero.symm
set_option maxHeartbeats 1000000 in
theorem div_zero (x : Int) (hx : nd x.natAbs ≤ 4096) (w : World) :
    Calls Tryz.prog 83 #[.string (inum x), .string (inum 0)] w fun e w' => e = .returned (.tuple #[.string ⟨#[]⟩, .string ⟨#[]⟩, .int .i64 10]) ∧ Below w.heap.size w w' := by
  obtain ⟨m, hm⟩ : ∃ m, decide (x < 0) = m := ⟨_, rfl⟩
  have HM := Lib.hid hm
  have h0 : nd (0 : Int).natAbs ≤ 4096 := Nat.le_trans (nd_le _ 0 (by decide)) (by omega)
  have hnx := num_le hx
  have HD : Hid (∀ w : World, Calls Tryz.prog 115 #[.agg #[.bool m, .string (num x.natAbs)], .agg #[.bool false, .string (num (0 : Int).natAbs)]] w fun e w' => DivZero m false w e w') := by
    intro w
    cases m
    · exact divide_zero_false false false rfl _ w hnx
    · exact divide_zero_true true false rfl _ w hnx
  have hc := check_two (inum x) (inum 0) 0 (checkL_ok2 hx h0) (inum_le hx (by omega)) (inum_le h0 (by omega))
  have hp := parse_z 0 false (Lib.hid (by decide))
  have HC := Lib.hid hc
  have HP := Lib.hid hp
  clear hm hc hp
  generalize inum 0 = z0 at *
  generalize num (0 : Int).natAbs = n0 at *
  go_enter Tryz.func83, Tryz.ntmps83
  go_wp2_with fail
  refine (HC.out _ _).mono ?_
  rintro e w1 ⟨rfl, b1⟩
  go_wp2_with fail
  refine (parse_z x m HM _).mono ?_
  rintro e w2 ⟨rfl, b2⟩
  have B2 := Below.over b1 b2
  go_wp2_with fail
  refine (HP.out _).mono ?_
  rintro e w3 ⟨rfl, b3⟩
  have B3 := Below.over B2 b3
  go_wp2_with fail
  refine (HD.out _).mono ?_
  rintro e w4 ⟨rfl, b4⟩
  have B4 := Below.over B3 b4
  have hs4 := B4.size
  go_wp2_with fail
  go_ret3
  exact ⟨rfl, by go_grown⟩
theorem wDiv_zero (x : Int) (hx : nd x.natAbs ≤ 4096) (w : World) (_ht : Tab w) :
    Calls Tryz.prog 83 #[.string (inum x), .string ⟨#[48]⟩] w fun e w' => e = .returned (.tuple #[.string ⟨#[]⟩, .string ⟨#[]⟩, .int .i64 10]) ∧ Below w.heap.size w w' := by
  rw [inum_zero_d]
  exact div_zero x hx w
end Go.Proofs.YthamlnolfagpiaaGreatDoor.D

