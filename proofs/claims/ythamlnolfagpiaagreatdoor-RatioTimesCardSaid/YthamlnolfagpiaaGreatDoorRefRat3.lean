/-
  DERIVED. The walks of lorryref04's both, over, Make, Of, Add, Sub, Mul and Div.
-/
import Derived.Test.YthamlnolfagpiaaGreatDoorRefRat2
namespace Go.Proofs.YthamlnolfagpiaaGreatDoor.D
open Go.RowKit
set_option maxRecDepth 8000

theorem over4 {w W w1 : World} (h : Below w.heap.size w W) (b : Below W.heap.size W w1) : Below w.heap.size w w1 := h.trans (b.mono h.size)
theorem rtx_size (r : Rat) : (rtx r).size ≤ nd r.num.natAbs + nd r.den + 2 := by
  rw [← len_of, rtx_data]
  have h0 : (inumL r.num).length ≤ nd r.num.natAbs + 1 := by
    have := inum_size r.num
    rw [← len_of, inum_data] at this
    have h2 : off r.num ≤ 1 := by unfold off; split <;> omega
    omega
  by_cases h : r.den = 1
  · rw [rtxL_one h]; omega
  · rw [rtxL_two h, List.length_append, List.length_cons]
    have : (Lib.decDigits r.den).length = nd r.den := rfl
    omega
theorem sz_text {r : Rat} (h : Sz 1900 r) : (rtx r).size ≤ 4000 := by have := rtx_size r; have h1 := h.1; have h2 := h.2; omega
theorem sz_inum {x : Int} {k n : Nat} (h : nd x.natAbs ≤ k) (hk : k + 1 ≤ n) : (inum x).size ≤ n := Nat.le_trans (sz_nd h) hk

/-! ### four strings -/
/-- block n holds four strings -/
def Bq (w : World) (n : Nat) (a b c d : ByteArray) : Prop := w.heap[n]? = some (.cells #[.string a, .string b, .string c, .string d] 67)
section
variable {w w' : World} {n : Nat} {a b c d : ByteArray}
theorem Bq.c0 (h : Bq w n a b c d) : w.cell? ⟨n, 0, none⟩ = some (.string a) := by unfold Bq at h; simp [World.cell?, h]
theorem Bq.c1 (h : Bq w n a b c d) : w.cell? ⟨n, 1, none⟩ = some (.string b) := by unfold Bq at h; simp [World.cell?, h]
theorem Bq.c2 (h : Bq w n a b c d) : w.cell? ⟨n, 2, none⟩ = some (.string c) := by unfold Bq at h; simp [World.cell?, h]
theorem Bq.c3 (h : Bq w n a b c d) : w.cell? ⟨n, 3, none⟩ = some (.string d) := by unfold Bq at h; simp [World.cell?, h]
theorem Bq.f (h : Bq w n a b c d) (k : Nat) : w.frozen? ⟨n, k, none⟩ = false := by unfold Bq at h; simp [World.frozen?, h]
theorem Bq.below {B : Nat} (h : Bq w n a b c d) (hb : Below B w w') (hn : n < B) : Bq w' n a b c d := (hb.block n hn).trans h
theorem Bq.made (w : World) (a b c d : ByteArray) : Bq (w.alloc (.cells #[.string a, .string b, .string c, .string d] 67)) w.heap.size a b c d := by
  show (w.heap.push _)[w.heap.size]? = _
  simp
theorem Bq.put (h : Bq w n a b c d) (a' b' c' d' : ByteArray) : Bq ((((w.setCell ⟨n, 0, none⟩ (.string a')).setCell ⟨n, 1, none⟩ (.string b')).setCell ⟨n, 2, none⟩ (.string c')).setCell ⟨n, 3, none⟩ (.string d')) n a' b' c' d' := by
  unfold Bq at *; simp [World.setCell, Array.getElem?_modify, h]
theorem Bq.behind (hb : Below (w.alloc (.cells #[.string a, .string b, .string c, .string d] 67)).heap.size (w.alloc (.cells #[.string a, .string b, .string c, .string d] 67)) w') : Bq w' w.heap.size a b c d :=
  (Bq.made w a b c d).below hb (by simp)
end

/-! ### both -/
def parts4 (a : ByteArray) (x y : ByteArray) (e : Int) : Prop :=
  ∀ w : World, Calls Tryz.prog 13 #[.string a] w fun en w' => en = .returned (.tuple #[.string x, .string y, .int .i64 e]) ∧ Below w.heap.size w w'
theorem parts4_of {a : ByteArray} (hs : a.size ≤ 4000) : ∃ x y e, parts4 a x y e ∧ (rightR a.data.toList = false → e = 3) ∧ (rightR a.data.toList = true → e = 0) := by
  by_cases h : rightR a.data.toList = true
  · obtain ⟨r, _, rfl⟩ := rightR_str a h
    exact ⟨_, _, 0, fun w => parts4_r r hs w, fun hf => (by rw [h] at hf; cases hf), fun _ => rfl⟩
  · have h : rightR a.data.toList = false := by simpa using h
    exact ⟨_, _, 3, fun w => parts4_bad a h hs w, fun _ => rfl, fun hf => (by rw [h] at hf; cases hf)⟩
set_option maxHeartbeats 800000 in
theorem both_bad (a b : ByteArray) (h : rightR a.data.toList = false ∨ rightR b.data.toList = false) (ha : a.size ≤ 4000) (hb : b.size ≤ 4000) (w : World) :
    Calls Tryz.prog 54 #[.string a, .string b] w fun e w' => e = .returned (.tuple #[.agg #[.string ⟨#[]⟩, .string ⟨#[]⟩, .string ⟨#[]⟩, .string ⟨#[]⟩], .int .i64 3]) ∧ Below w.heap.size w w' := by
  obtain ⟨x, y, e1, hp1, h1, k1⟩ := parts4_of ha
  obtain ⟨u, v, e2, hp2, h2, k2⟩ := parts4_of hb
  have hcase : e1 = 3 ∨ (e1 = 0 ∧ e2 = 3) := by
    cases hA : rightR a.data.toList
    · exact .inl (h1 hA)
    · exact .inr ⟨k1 hA, h2 (by rcases h with h | h; (rw [h] at hA; cases hA); exact h)⟩
  have HP1 := Lib.hid hp1
  have HP2 := Lib.hid hp2
  clear h h1 k1 h2 k2 hp1 hp2
  rcases hcase with rfl | ⟨rfl, rfl⟩
  all_goals
    go_enter Tryz.func54, Tryz.ntmps54
    go_wp2_with fail
    refine (HP1.out _).mono ?_
    rintro e w1 ⟨rfl, b1⟩
    have B1 := over4 (w := w) (by go_grown) b1
    have hq := Bq.behind b1
    have hs1 := b1.size
    go_wp2_with fail
    refine (HP2.out _).mono ?_
    rintro e w2 ⟨rfl, b2⟩
    have B2 := over4 B1 b2
    have hlt : w.heap.size + 1 ≤ w1.heap.size := by simpa using hs1
    replace hq := hq.below b2 (by omega)
    have c0 := hq.c0
    have c1 := hq.c1
    have c2 := hq.c2
    have c3 := hq.c3
    have f0 := hq.f 0
    have f1 := hq.f 1
    have f2 := hq.f 2
    have f3 := hq.f 3
    go_wp2_with fail
    have hF := hq.put ⟨#[]⟩ ⟨#[]⟩ ⟨#[]⟩ ⟨#[]⟩
    have g0 := hF.c0
    have g1 := hF.c1
    have g2 := hF.c2
    have g3 := hF.c3
    refine bodyPost_ret (v := .tuple #[.agg #[.string ⟨#[]⟩, .string ⟨#[]⟩, .string ⟨#[]⟩, .string ⟨#[]⟩], .int .i64 3]) (by simp [results, Tryz.results54, go_sem, g0, g1, g2, g3]) rfl ⟨rfl, by go_grown⟩

theorem both_r (r s : Rat) (hr : (rtx r).size ≤ 4000) (hs : (rtx s).size ≤ 4000) (w : World) :
    Calls Tryz.prog 54 #[.string (rtx r), .string (rtx s)] w fun e w' => e = .returned (.tuple #[.agg #[.string (inum r.num), .string (num r.den), .string (inum s.num), .string (num s.den)], .int .i64 0]) ∧ Below w.heap.size w w' := by
  have HP1 := Lib.hid (fun w => parts4_r r hr w)
  have HP2 := Lib.hid (fun w => parts4_r s hs w)
  clear hr hs
  go_enter Tryz.func54, Tryz.ntmps54
  go_wp2_with fail
  refine (HP1.out _).mono ?_
  rintro e w1 ⟨rfl, b1⟩
  have B1 := over4 (w := w) (by go_grown) b1
  have hq := Bq.behind b1
  have hs1 := b1.size
  go_wp2_with fail
  refine (HP2.out _).mono ?_
  rintro e w2 ⟨rfl, b2⟩
  have B2 := over4 B1 b2
  have hlt : w.heap.size + 1 ≤ w1.heap.size := by simpa using hs1
  replace hq := hq.below b2 (by omega)
  have c0 := hq.c0
  have c1 := hq.c1
  have c2 := hq.c2
  have c3 := hq.c3
  have f0 := hq.f 0
  have f1 := hq.f 1
  have f2 := hq.f 2
  have f3 := hq.f 3
  go_wp2_with fail
  have hF := hq.put (inum r.num) (num r.den) (inum s.num) (num s.den)
  have g0 := hF.c0
  have g1 := hF.c1
  have g2 := hF.c2
  have g3 := hF.c3
  refine bodyPost_ret (v := .tuple #[.agg #[.string (inum r.num), .string (num r.den), .string (inum s.num), .string (num s.den)], .int .i64 0]) (by simp [results, Tryz.results54, go_sem, g0, g1, g2, g3]) rfl ⟨rfl, by go_grown⟩

/-! ### the specification's products and sums, of texts -/
theorem mul4 (x y z : Int) (a b : ByteArray) (ha : a = inum x) (hb : b = inum y) (hz : x * y = z) (h1 : nd x.natAbs ≤ 3900) (h2 : nd y.natAbs ≤ 3900) (h3 : nd z.natAbs ≤ 3900) (w : World) :
    Calls Tryz.prog 59 #[.string a, .string b] w fun e w' => e = .returned (.tuple #[.string (inum z), .int .i64 0]) ∧ Below w.heap.size w w' := by
  subst ha hb hz
  exact refMul3_num x y w (sz_inum h1 (by omega)) (sz_inum h2 (by omega)) (sz_inum h3 (by omega))
theorem add4 (x y z : Int) (hz : x + y = z) (h1 : nd x.natAbs ≤ 3900) (h2 : nd y.natAbs ≤ 3900) (w : World) :
    Calls Tryz.prog 60 #[.string (inum x), .string (inum y)] w fun e w' => e = .returned (.tuple #[.string (inum z), .int .i64 0]) ∧ Below w.heap.size w w' := by
  have h3 := nda_add hz h1 h2
  subst hz
  exact refAdd3_num x y w (sz_inum h1 (by omega)) (sz_inum h2 (by omega)) (sz_inum h3 (by omega))
theorem reduced_r (a b : Int) (r : Rat) (h0 : b ≠ 0) (hr : Rat.divInt a b = r) (ha : nd a.natAbs ≤ 3950) (hb : nd b.natAbs ≤ 3950) (w : World) :
    Calls Tryz.prog 61 #[.string (inum a), .string (inum b)] w fun e w' => e = .returned (.string (rtx r)) ∧ Below w.heap.size w w' := by
  subst hr
  exact reduced4 a b h0 (sz_inum ha (by omega)) (sz_inum hb (by omega)) w

/-! ### Make, Of -/
theorem of4 (z : Int) (h1 : -9223372036854775808 ≤ z) (h2 : z ≤ 9223372036854775807) (w : World) :
    Calls Tryz.prog 35 #[.int .i64 z] w fun e w' => e = .returned (.string (inum z)) ∧ Below w.heap.size w w' := by
  go_enter Tryz.func35, Tryz.ntmps35
  go_wp2_with fail
  refine (refOf3_any z h1 h2 _).mono ?_
  rintro e w1 ⟨rfl, b1⟩
  go_wp2_with fail
  go_ret
  exact ⟨rfl, b1⟩
theorem make4_bad (a b : ByteArray) (h : rightI a.data.toList = false ∨ rightI b.data.toList = false) (ha : a.size ≤ 4000) (hb : b.size ≤ 4000) (w : World) :
    Calls Tryz.prog 33 #[.string a, .string b] w fun e w' => e = .returned (.tuple #[.string ⟨#[]⟩, .int .i64 3]) ∧ Below w.heap.size w w' := by
  by_cases h1 : rightI a.data.toList = false
  · have H1 := Lib.hid h1
    clear h h1
    go_enter Tryz.func33, Tryz.ntmps33
    go_wp2_with (go_at_call 41; with_reducible refine (refRight3_e a false H1 _ (by omega)).mono ?_; rintro e w' ⟨rfl, rfl⟩)
    go_ret2
    exact ⟨rfl, Below.refl _ _⟩
  · have H1 : Hid (rightI a.data.toList = true) := Lib.hid (by simpa using h1)
    have H2 : Hid (rightI b.data.toList = false) := h.resolve_left h1
    clear h h1
    go_enter Tryz.func33, Tryz.ntmps33
    go_wp2_with (first
      | (go_at_call 41; with_reducible refine (refRight3_e a true H1 _ (by omega)).mono ?_; rintro e w' ⟨rfl, rfl⟩)
      | (go_at_call 41; with_reducible refine (refRight3_e b false H2 _ (by omega)).mono ?_; rintro e w' ⟨rfl, rfl⟩))
    go_ret2
    exact ⟨rfl, Below.refl _ _⟩
theorem make4_zero (x : Int) (hx : (inum x).size ≤ 3900) (w : World) :
    Calls Tryz.prog 33 #[.string (inum x), .string (inum 0)] w fun e w' => e = .returned (.tuple #[.string ⟨#[]⟩, .int .i64 10]) ∧ Below w.heap.size w w' := by
  have e0 := zero_eqI 0
  rw [decide_eq_true rfl] at e0
  have hy : (inum 0).size ≤ 3900 := by rw [inum_zero]; decide
  have hd1 := dg_of x _ hx
  have hd2 := dg_of 0 _ hy
  obtain ⟨d1, hde1⟩ : ∃ d, dg (inum x) = d := ⟨_, rfl⟩
  obtain ⟨d2, hde2⟩ : ∃ d, dg (inum 0) = d := ⟨_, rfl⟩
  rw [hde1] at hd1
  rw [hde2] at hd2
  have HD1 := Lib.hid hde1
  have HD2 := Lib.hid hde2
  have HR1 := right_inum x
  have HR2 := right_inum 0
  clear hde1 hde2
  generalize inum x = sx at *
  generalize inum 0 = sy at *
  go_enter Tryz.func33, Tryz.ntmps33
  go_wp2_with (first
    | (go_at_call 41; with_reducible refine (refRight3_e sx true HR1 _ (by omega)).mono ?_; rintro e w' ⟨rfl, rfl⟩)
    | (go_at_call 41; with_reducible refine (refRight3_e sy true HR2 _ (by omega)).mono ?_; rintro e w' ⟨rfl, rfl⟩)
    | (go_at_call 43; with_reducible refine (refDigits4_d sx d1 HD1 _ (by omega)).mono ?_; rintro e w' ⟨rfl, rfl⟩)
    | (go_at_call 43; with_reducible refine (refDigits4_d sy d2 HD2 _ (by omega)).mono ?_; rintro e w' ⟨rfl, rfl⟩))
  go_ret2
  exact ⟨rfl, Below.refl _ _⟩
theorem make4_num (x y : Int) (h0 : y ≠ 0) (hx : (inum x).size ≤ 3900) (hy : (inum y).size ≤ 3900) (w : World) :
    Calls Tryz.prog 33 #[.string (inum x), .string (inum y)] w fun e w' => e = .returned (.tuple #[.string (rtx (Rat.divInt x y)), .int .i64 0]) ∧ Below w.heap.size w w' := by
  have e0 := zero_eqI y
  rw [decide_eq_false h0] at e0
  have hd1 := dg_of x _ hx
  have hd2 := dg_of y _ hy
  obtain ⟨d1, hde1⟩ : ∃ d, dg (inum x) = d := ⟨_, rfl⟩
  obtain ⟨d2, hde2⟩ : ∃ d, dg (inum y) = d := ⟨_, rfl⟩
  rw [hde1] at hd1
  rw [hde2] at hd2
  have HD1 := Lib.hid hde1
  have HD2 := Lib.hid hde2
  have HR1 := right_inum x
  have HR2 := right_inum y
  have HX := Lib.hid (fun w => reduced4 x y h0 (by omega) (by omega) w)
  clear hde1 hde2
  generalize inum x = sx at *
  generalize inum y = sy at *
  go_enter Tryz.func33, Tryz.ntmps33
  go_wp2_with (first
    | (go_at_call 41; with_reducible refine (refRight3_e sx true HR1 _ (by omega)).mono ?_; rintro e w' ⟨rfl, rfl⟩)
    | (go_at_call 41; with_reducible refine (refRight3_e sy true HR2 _ (by omega)).mono ?_; rintro e w' ⟨rfl, rfl⟩)
    | (go_at_call 43; with_reducible refine (refDigits4_d sx d1 HD1 _ (by omega)).mono ?_; rintro e w' ⟨rfl, rfl⟩)
    | (go_at_call 43; with_reducible refine (refDigits4_d sy d2 HD2 _ (by omega)).mono ?_; rintro e w' ⟨rfl, rfl⟩))
  refine (HX.out _).mono ?_
  rintro e w1 ⟨rfl, b1⟩
  go_wp2_with fail
  go_ret2
  exact ⟨rfl, b1⟩

/-! ### Add, Mul, Div -/
theorem add4_bad (a b : ByteArray) (h : rightR a.data.toList = false ∨ rightR b.data.toList = false) (ha : a.size ≤ 4000) (hb : b.size ≤ 4000) (w : World) :
    Calls Tryz.prog 25 #[.string a, .string b] w fun e w' => e = .returned (.tuple #[.string ⟨#[]⟩, .int .i64 3]) ∧ Below w.heap.size w w' := by
  have HB := Lib.hid (fun w => both_bad a b h ha hb w)
  clear h
  go_enter Tryz.func25, Tryz.ntmps25
  go_wp2_with fail
  refine (HB.out _).mono ?_
  rintro e w1 ⟨rfl, b1⟩
  have hs1 := b1.size
  go_wp2_with fail
  go_ret2
  exact ⟨rfl, by go_grown⟩
theorem mul4_bad (a b : ByteArray) (h : rightR a.data.toList = false ∨ rightR b.data.toList = false) (ha : a.size ≤ 4000) (hb : b.size ≤ 4000) (w : World) :
    Calls Tryz.prog 29 #[.string a, .string b] w fun e w' => e = .returned (.tuple #[.string ⟨#[]⟩, .int .i64 3]) ∧ Below w.heap.size w w' := by
  have HB := Lib.hid (fun w => both_bad a b h ha hb w)
  clear h
  go_enter Tryz.func29, Tryz.ntmps29
  go_wp2_with fail
  refine (HB.out _).mono ?_
  rintro e w1 ⟨rfl, b1⟩
  have hs1 := b1.size
  go_wp2_with fail
  go_ret2
  exact ⟨rfl, by go_grown⟩
theorem div4_bad (a b : ByteArray) (h : rightR a.data.toList = false ∨ rightR b.data.toList = false) (ha : a.size ≤ 4000) (hb : b.size ≤ 4000) (w : World) :
    Calls Tryz.prog 31 #[.string a, .string b] w fun e w' => e = .returned (.tuple #[.string ⟨#[]⟩, .int .i64 3]) ∧ Below w.heap.size w w' := by
  have HB := Lib.hid (fun w => both_bad a b h ha hb w)
  clear h
  go_enter Tryz.func31, Tryz.ntmps31
  go_wp2_with fail
  refine (HB.out _).mono ?_
  rintro e w1 ⟨rfl, b1⟩
  have hs1 := b1.size
  go_wp2_with fail
  go_ret2
  exact ⟨rfl, by go_grown⟩
theorem compare4_bad (a b : ByteArray) (h : rightR a.data.toList = false ∨ rightR b.data.toList = false) (ha : a.size ≤ 4000) (hb : b.size ≤ 4000) (w : World) :
    Calls Tryz.prog 21 #[.string a, .string b] w fun e w' => e = .returned (.int .i64 0) ∧ Below w.heap.size w w' := by
  have HB := Lib.hid (fun w => both_bad a b h ha hb w)
  clear h
  go_enter Tryz.func21, Tryz.ntmps21
  go_wp2_with fail
  refine (HB.out _).mono ?_
  rintro e w1 ⟨rfl, b1⟩
  have hs1 := b1.size
  go_wp2_with fail
  go_ret
  exact ⟨rfl, by go_grown⟩
theorem nd_den {r : Rat} {k : Nat} (h : Sz k r) : nd (r.den : Int).natAbs ≤ k := by rw [Int.natAbs_natCast]; exact h.2
theorem over4_z (A B C D x y : Int) (r : Rat) (sa sb sc sd : ByteArray) (ha : sa = inum A) (hb : sb = inum B) (hc : sc = inum C) (hd : sd = inum D) (hx : A * B = x) (hy : C * D = y) (h0 : y ≠ 0) (hr : Rat.divInt x y = r)
    (h1 : nd A.natAbs ≤ 1900) (h2 : nd B.natAbs ≤ 1900) (h3 : nd C.natAbs ≤ 1900) (h4 : nd D.natAbs ≤ 1900) (w : World) :
    Calls Tryz.prog 64 #[.string sa, .string sb, .string sc, .string sd] w fun e w' => e = .returned (.tuple #[.string (rtx r), .int .i64 0]) ∧ Below w.heap.size w w' := by
  have k1 : nd x.natAbs ≤ 1900 + 1900 := nda_mul hx h1 h2
  have k2 : nd y.natAbs ≤ 1900 + 1900 := nda_mul hy h3 h4
  have HX := Lib.hid (fun w => mul4 A B x sa sb ha hb hx (by omega) (by omega) (by omega) w)
  have HY := Lib.hid (fun w => mul4 C D y sc sd hc hd hy (by omega) (by omega) (by omega) w)
  have HR := Lib.hid (fun w => reduced_r x y r h0 hr (by omega) (by omega) w)
  clear ha hb hc hd hx hy h0 hr
  go_enter Tryz.func64, Tryz.ntmps64
  go_wp2_with fail
  refine (HX.out _).mono ?_
  rintro e w1 ⟨rfl, b1⟩
  go_wp2_with fail
  refine (HY.out _).mono ?_
  rintro e w2 ⟨rfl, b2⟩
  go_wp2_with fail
  refine (HR.out _).mono ?_
  rintro e w3 ⟨rfl, b3⟩
  go_wp2_with fail
  go_ret2
  exact ⟨rfl, over4 (over4 b1 b2) b3⟩
set_option maxHeartbeats 1000000 in
theorem add4_r (r s : Rat) (hr : Sz 1900 r) (hs : Sz 1900 s) (w : World) :
    Calls Tryz.prog 25 #[.string (rtx r), .string (rtx s)] w fun e w' => e = .returned (.tuple #[.string (rtx (r + s)), .int .i64 0]) ∧ Below w.heap.size w w' := by
  have HB := Lib.hid (fun w => both_r r s (sz_text hr) (sz_text hs) w)
  obtain ⟨x, hx⟩ : ∃ v : Int, r.num * (s.den : Int) = v := ⟨_, rfl⟩
  obtain ⟨y, hy⟩ : ∃ v : Int, s.num * (r.den : Int) = v := ⟨_, rfl⟩
  obtain ⟨z, hz⟩ : ∃ v : Int, (r.den : Int) * (s.den : Int) = v := ⟨_, rfl⟩
  obtain ⟨t, ht⟩ : ∃ v : Int, x + y = v := ⟨_, rfl⟩
  have k1 : nd x.natAbs ≤ 1900 + 1900 := nda_mul hx hr.1 (nd_den hs)
  have k2 : nd y.natAbs ≤ 1900 + 1900 := nda_mul hy hs.1 (nd_den hr)
  have k3 : nd z.natAbs ≤ 1900 + 1900 := nda_mul hz (nd_den hr) (nd_den hs)
  have k4 : nd t.natAbs ≤ 1900 + 1900 + 1 := nda_add ht k1 k2
  have h0 : z ≠ 0 := by
    rw [← hz]
    have h1 := rat_den_pos r
    have h2 := rat_den_pos s
    exact Int.mul_ne_zero (by omega) (by omega)
  have hq : Rat.divInt t z = r + s := by
    rw [← ht, ← hx, ← hy, ← hz, ← Int.natCast_mul, divInt_pos, add_quot]
  have H1 := Lib.hid (fun w => mul4 r.num s.den x (inum r.num) (num s.den) rfl (inum_nat _).symm hx (Nat.le_trans hr.1 (by omega)) (Nat.le_trans (nd_den hs) (by omega)) (by omega) w)
  have H2 := Lib.hid (fun w => mul4 s.num r.den y (inum s.num) (num r.den) rfl (inum_nat _).symm hy (Nat.le_trans hs.1 (by omega)) (Nat.le_trans (nd_den hr) (by omega)) (by omega) w)
  have H3 := Lib.hid (fun w => mul4 r.den s.den z (num r.den) (num s.den) (inum_nat _).symm (inum_nat _).symm hz (Nat.le_trans (nd_den hr) (by omega)) (Nat.le_trans (nd_den hs) (by omega)) (by omega) w)
  have H4 := Lib.hid (fun w => add4 x y t ht (by omega) (by omega) w)
  have H5 := Lib.hid (fun w => reduced_r t z (r + s) h0 hq (by omega) (by omega) w)
  clear hx hy hz ht h0 hq
  go_enter Tryz.func25, Tryz.ntmps25
  go_wp2_with fail
  refine (HB.out _).mono ?_
  rintro e w1 ⟨rfl, b1⟩
  have hs1 := b1.size
  go_wp2_with fail
  refine (H1.out _).mono ?_
  rintro e w2 ⟨rfl, b2⟩
  have B2 := over4 (w := w) (by go_grown) b2
  have hq := Bq.behind b2
  have hs2 := b2.size
  have hlt : w1.heap.size + 1 ≤ w2.heap.size := by simpa using hs2
  have c1 := hq.c1
  have c2 := hq.c2
  go_wp2_with fail
  refine (H2.out _).mono ?_
  rintro e w3 ⟨rfl, b3⟩
  have B3 := over4 B2 b3
  replace hq := hq.below b3 (by omega)
  clear c1 c2
  have c1 := hq.c1
  have c3 := hq.c3
  go_wp2_with fail
  refine (H3.out _).mono ?_
  rintro e w4 ⟨rfl, b4⟩
  have B4 := over4 B3 b4
  go_wp2_with fail
  refine (H4.out _).mono ?_
  rintro e w5 ⟨rfl, b5⟩
  have B5 := over4 B4 b5
  go_wp2_with fail
  refine (H5.out _).mono ?_
  rintro e w6 ⟨rfl, b6⟩
  have B6 := over4 B5 b6
  go_wp2_with fail
  go_ret2
  exact ⟨rfl, B6⟩
theorem mul4_r (r s : Rat) (hr : Sz 1900 r) (hs : Sz 1900 s) (w : World) :
    Calls Tryz.prog 29 #[.string (rtx r), .string (rtx s)] w fun e w' => e = .returned (.tuple #[.string (rtx (r * s)), .int .i64 0]) ∧ Below w.heap.size w w' := by
  have HB := Lib.hid (fun w => both_r r s (sz_text hr) (sz_text hs) w)
  have h0 : (r.den : Int) * (s.den : Int) ≠ 0 := by
    have h1 := rat_den_pos r
    have h2 := rat_den_pos s
    exact Int.mul_ne_zero (by omega) (by omega)
  have hq : Rat.divInt (r.num * s.num) ((r.den : Int) * (s.den : Int)) = r * s := by rw [← Int.natCast_mul, divInt_pos, mul_quot]
  have HO := Lib.hid (fun w => over4_z r.num s.num r.den s.den _ _ _ (inum r.num) (inum s.num) (num r.den) (num s.den) rfl rfl (inum_nat _).symm (inum_nat _).symm rfl rfl h0 hq hr.1 hs.1 (nd_den hr) (nd_den hs) w)
  clear h0 hq
  go_enter Tryz.func29, Tryz.ntmps29
  go_wp2_with fail
  refine (HB.out _).mono ?_
  rintro e w1 ⟨rfl, b1⟩
  have hs1 := b1.size
  go_wp2_with fail
  refine (HO.out _).mono ?_
  rintro e w2 ⟨rfl, b2⟩
  have B2 := over4 (w := w) (by go_grown) b2
  go_wp2_with fail
  go_ret2
  exact ⟨rfl, B2⟩
theorem rat_num_ne {s : Rat} (h : s ≠ 0) : s.num ≠ 0 := fun e => h (Rat.num_eq_zero.1 e)
theorem div4_r (r s : Rat) (hn : s ≠ 0) (hr : Sz 1900 r) (hs : Sz 1900 s) (w : World) :
    Calls Tryz.prog 31 #[.string (rtx r), .string (rtx s)] w fun e w' => e = .returned (.tuple #[.string (rtx (r / s)), .int .i64 0]) ∧ Below w.heap.size w w' := by
  have HB := Lib.hid (fun w => both_r r s (sz_text hr) (sz_text hs) w)
  have hsn := rat_num_ne hn
  have h0 : (r.den : Int) * s.num ≠ 0 := by
    have h1 := rat_den_pos r
    exact Int.mul_ne_zero (by omega) hsn
  have HO := Lib.hid (fun w => over4_z r.num s.den r.den s.num _ _ _ (inum r.num) (num s.den) (num r.den) (inum s.num) rfl (inum_nat _).symm (inum_nat _).symm rfl rfl rfl h0 (div_quot r s) hr.1 (nd_den hs) (nd_den hr) hs.1 w)
  have e0 := zero_eqI s.num
  rw [decide_eq_false hsn] at e0
  clear h0 hsn hn
  go_enter Tryz.func31, Tryz.ntmps31
  go_wp2_with fail
  refine (HB.out _).mono ?_
  rintro e w1 ⟨rfl, b1⟩
  have hs1 := b1.size
  go_wp2_with fail
  refine (HO.out _).mono ?_
  rintro e w2 ⟨rfl, b2⟩
  have B2 := over4 (w := w) (by go_grown) b2
  go_wp2_with fail
  go_ret2
  exact ⟨rfl, B2⟩
theorem div4_zero (r : Rat) (hr : Sz 1900 r) (w : World) :
    Calls Tryz.prog 31 #[.string (rtx r), .string (rtx 0)] w fun e w' => e = .returned (.tuple #[.string ⟨#[]⟩, .int .i64 10]) ∧ Below w.heap.size w w' := by
  have hz : Sz 1900 0 := ⟨Nat.le_trans (nd_le _ 0 (by decide)) (by omega), Nat.le_trans (nd_le _ 0 (by decide)) (by omega)⟩
  have HB := Lib.hid (fun w => both_r r 0 (sz_text hr) (sz_text hz) w)
  have e0 := zero_eqI (0 : Rat).num
  rw [decide_eq_true (p := (0 : Rat).num = 0) rfl] at e0
  generalize rtx 0 = s at *
  generalize inum (0 : Rat).num = s1 at *
  generalize num (0 : Rat).den = s2 at *
  clear hz
  go_enter Tryz.func31, Tryz.ntmps31
  go_wp2_with fail
  refine (HB.out _).mono ?_
  rintro e w1 ⟨rfl, b1⟩
  have hs1 := b1.size
  go_wp2_with fail
  go_ret2
  exact ⟨rfl, by go_grown⟩

end Go.Proofs.YthamlnolfagpiaaGreatDoor.D

