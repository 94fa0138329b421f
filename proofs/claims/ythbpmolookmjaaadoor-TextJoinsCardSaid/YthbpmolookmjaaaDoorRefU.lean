/-
  DERIVED. The walks of the specification's quoted and Unquote.
-/
import Derived.Test.YthbpmolookmjaaaDoorRefQ
namespace Go.Proofs.YthbpmolookmjaaaDoor
open Go.RowKit

theorem getD_drop0' (s : ByteArray) (k : Nat) (h : k < s.size) : s.data.toList.drop k = s[k] :: s.data.toList.drop (k + 1) := by
  rw [List.drop_eq_getElem_cons (by simpa using h)]; rfl
theorem quoteL_cons (m t : List UInt8) : quoteL m ++ t = 34 :: (flat m ++ 34 :: t) := by simp [quoteL]

theorem flat_ge (m : List UInt8) : m.length ≤ (flat m).length := by
  induction m with
  | nil => simp
  | cons c m ih => rw [flat_cons, List.length_append, List.length_cons]; have := formL_pos c.toNat; omega
theorem starts_hit (s : ByteArray) (j : Nat) (hj : j ≤ s.size) (w : World) (hs : s.size ≤ 1000000) (c n : Nat) (hr : rfm (s.data.toList.drop j) = (c, n)) (hn : n ≠ 0) :
    Calls Tryd.prog 49 #[.string s, .int .i64 j] w fun e w' => e = .returned (.tuple #[.int .u8 c, .int .i64 (j + n), .bool true]) ∧ Below w.heap.size w w' := by
  have := starts_any s j hj w hs
  rw [hr] at this
  have hb : (n != 0) = true := bne_iff_ne.2 hn
  simp only [hb] at this
  exact this
theorem starts_miss (s : ByteArray) (j : Nat) (hj : j ≤ s.size) (w : World) (hs : s.size ≤ 1000000) (hr : (rfm (s.data.toList.drop j)).2 = 0) :
    Calls Tryd.prog 49 #[.string s, .int .i64 j] w fun e w' => e = .returned (.tuple #[.int .u8 0, .int .i64 j, .bool false]) ∧ Below w.heap.size w w' := by
  have := starts_any s j hj w hs
  rw [rfm_zero _ hr] at this
  have hz : ((j : Int) + ((0 : Nat) : Int)) = j := by omega
  simp only [hz] at this
  exact this

set_option maxRecDepth 100000 in
set_option maxHeartbeats 1000000 in
theorem quoted_ok (s : ByteArray) (k : Nat) (m t : List UInt8) (w : World) (hs : s.size ≤ 1000000) (h : s.data.toList.drop k = quoteL m ++ t) :
    Calls Tryd.prog 36 #[.string s, .int .i64 k] w fun e w' =>
      e = .returned (.tuple #[.string ⟨m.toArray⟩, .int .i64 (k + (quoteL m).length : Nat), .bool true]) ∧ Below w.heap.size w w' := by
  obtain ⟨i0, hi, hz0, hz1, hz2⟩ := info_parts info5
  rw [quoteL_cons] at h
  have hlen : s.size = k + ((flat m).length + t.length + 2) := by
    have h1 := congrArg List.length h
    rw [List.length_drop, List.length_cons, List.length_append, List.length_cons, len_of] at h1
    omega
  have hlt : k < s.size := by omega
  have hk0 : s[k].toNat = 34 := by
    rw [getD_drop0' s k hlt] at h
    rw [(List.cons.inj h).1]; rfl
  have hk0' : ((s[k].toNat : Int) != 34) = false := by simp; omega
  have hd1 : s.data.toList.drop (k + 1) = flat m ++ 34 :: t := by rw [getD_drop0' s k hlt] at h; exact (List.cons.inj h).2
  have hge : ¬ (s.size : Int) ≤ (k : Int) := by omega
  have HD := Lib.hid hd1
  have HLEN := Lib.hid hlen
  have hk1 : k + 1 ≤ s.size := by omega
  clear h hk0 hd1 hlen
  have hqn : (quoteL m).length = (flat m).length + 2 := quoteL_len m
  have HQ := Lib.hid hqn
  have hms : m.length ≤ s.size := by have := flat_ge m; have := HLEN.out; omega
  clear hqn
  go_enter Tryd.func36, Tryd.ntmps36
  go_wp2_with fail
  go_loopw [1, 7] (fun a v wr => ∃ (j : Nat) (acc rest : List UInt8), a = .int .i64 j ∧ j ≤ s.size ∧ wr.ownsRow w.heap.size 5 1 v acc.length (Lib.byteCells acc) ∧ acc.length ≤ s.size ∧ Below w.heap.size w wr ∧ Hid (s.data.toList.drop j = flat rest ++ 34 :: t) ∧ Hid (acc ++ rest = m) ∧ Hid (k + (quoteL m).length = j + (flat rest).length + 1)) (fun a _ _ => s.size - (intOf a).toNat)
  case atStart => exact ⟨k + 1, [], m, by go_num, hk1, World.ownsRow_nil _ _ _ _, by simp, Below.refl _ _, HD, rfl, by show _ = _; rw [HQ.out]; omega⟩
  case round =>
    clear hk0' HD hge
    obtain ⟨j, acc, rest, rfl, hj, hown, hac, hb, HD, HA, HN⟩ := hrel
    have hjl : j < s.size := by
      have h1 := congrArg List.length HD.out
      rw [List.length_drop, List.length_append, List.length_cons, len_of] at h1
      omega
    match rest, HD, HA, HN with
    | [], HD, HA, HN =>
      have hj0 : s[j].toNat = 34 := by
        have h := HD.out
        rw [getD_drop0' s j hjl] at h
        rw [(List.cons.inj h).1]; rfl
      have hj0' : ((s[j].toNat : Int) != 34) = false := by simp; omega
      clear hj0
      have hcv := own_bytes hown
      have HM : Hid (acc = m) := by have := HA.out; show _ = _; simpa using this
      have HN' : Hid (k + (quoteL m).length = j + 1) := by have := HN.out; show _ = _; simpa [flat] using this
      clear hown
      go_wp2_with fail
      go_ret3
      exact ⟨by rw [HM.out, HN'.out]; exact congrArg _ (by go_num), hb⟩
    | c :: rest, HD, HA, HN =>
      have hr := rfm_form c (flat rest ++ 34 :: t)
      have hdd : s.data.toList.drop j = formL c.toNat ++ (flat rest ++ 34 :: t) := by rw [HD.out, flat_cons, List.append_assoc]
      rw [← hdd] at hr
      have hj0 : s[j].toNat ≠ 34 := by
        have := formL_head c (flat rest ++ 34 :: t)
        rw [← hdd, getD_drop0' s j hjl] at this
        exact this
      have hj0' : ((s[j].toNat : Int) != 34) = true := by simp; omega
      have hfp := formL_pos c.toNat
      have hjn : j + (formL c.toNat).length ≤ s.size := by
        have h1 := congrArg List.length hdd
        rw [List.length_drop, List.length_append, len_of] at h1
        omega
      have HD2 : Hid (s.data.toList.drop (j + (formL c.toNat).length) = flat rest ++ 34 :: t) := by
        show _ = _; rw [← List.drop_drop, hdd, List.drop_left]
      have HA2 : Hid ((acc ++ [c]) ++ rest = m) := by show _ = _; rw [← HA.out]; simp
      have HN2 : Hid (k + (quoteL m).length = j + (formL c.toNat).length + (flat rest).length + 1) := by
        have := HN.out; rw [flat_cons, List.length_append] at this; show _ = _; omega
      have hac2 : acc.length + 1 ≤ s.size := by have := congrArg List.length HA.out; simp at this; omega
      have HR := Lib.hid hr
      generalize (formL c.toNat).length = n at *
      clear hr hdd hj0 HD HA HN
      go_wp2_with fail
      refine (starts_hit s j hj _ hs c.toNat n HR.out (by omega)).mono ?_
      rintro e w1 ⟨rfl, b1⟩
      have ho1 := own_frame hown b1
      have hb1 := hb.trans (b1.mono hb.size)
      have hs1 := hb1.size
      clear hown hb b1
      go_wp2_with (at_builtin; refine wpList_append_own _ rfl _ _ 43 rfl w.heap.size 5 i0 (.int .u8 0) 1 1 Tryd.underlying43 hi hz0 hz1 hz2 rfl (by decide) _ _ _ rfl (ho1.alloc _) ⟨w1.heap.size, 0, none⟩ 1 1 [.int .u8 c.toNat] rfl rfl ?d1 ?d2 ?d3 ?d4 ?d5 ?_)
      case d1 =>
        intro j u hj
        match j, hj with
        | 0, hj => simp at hj; subst hj; simp [Addr.add]
      case d2 => intro u hu; simp at hu; subst hu; rfl
      case d3 => unfold maxLen; omega
      case d4 => omega
      case d5 => simp; omega
      intro v' w2 hown' hgrow _
      have hb2 := (hb1.alloc hs1 (.cells #[.int .u8 c.toNat] 5)).grown hgrow (by simp; omega) (fun k hk => (ho1.lt k hk).1)
      have HO2 : Hid (w2.ownsRow w.heap.size 5 1 v' (acc ++ [c]).length (Lib.byteCells (acc ++ [c]))) := by
        show World.ownsRow _ _ _ _ _ _ _
        rw [Lib.byteCells_append, List.length_append]; exact hown'
      have HB2 := Lib.hid hb2
      clear hown' hgrow ho1 hb1 hb2
      go_wp2
      go_roundw
      case rel => exact ⟨j + n, acc ++ [c], rest, by go_num, hjn, HO2.out, by simp; omega, HB2.out, HD2, HA2, HN2⟩
      case measure => simp [intOf]; omega

set_option maxRecDepth 100000 in
set_option maxHeartbeats 1000000 in
theorem quoted_bad (s : ByteArray) (k : Nat) (hk : k ≤ s.size) (w : World) (hs : s.size ≤ 1000000) (h : ∀ m t, s.data.toList.drop k ≠ quoteL m ++ t) :
    Calls Tryd.prog 36 #[.string s, .int .i64 k] w fun e w' =>
      (∃ j : Int, e = .returned (.tuple #[.string ⟨#[]⟩, .int .i64 j, .bool false])) ∧ Below w.heap.size w w' := by
  obtain ⟨i0, hi, hz0, hz1, hz2⟩ := info_parts info5
  by_cases hlt : k < s.size
  · by_cases c0 : s[k].toNat = 34
    · have e0 : s[k] = 34 := UInt8.toNat_inj.1 (by simpa using c0)
      have c0' : ((s[k].toNat : Int) != 34) = false := by simp; omega
      have hne : ∀ m t, s.data.toList.drop (k + 1) ≠ flat m ++ 34 :: t := fun m t e => h m t (by rw [quoteL_cons, getD_drop0' s k hlt, e0, e])
      have HN := Lib.hid hne
      have hge : ¬ (s.size : Int) ≤ (k : Int) := by omega
      clear h hne c0 e0
      go_enter Tryd.func36, Tryd.ntmps36
      go_wp2_with fail
      go_loopw [1, 7] (fun a v wr => ∃ (j : Nat) (acc : List UInt8), a = .int .i64 j ∧ j ≤ s.size + 4 ∧ wr.ownsRow w.heap.size 5 1 v acc.length (Lib.byteCells acc) ∧ acc.length ≤ j ∧ Below w.heap.size w wr ∧ Hid (∀ m t, s.data.toList.drop j ≠ flat m ++ 34 :: t)) (fun a _ _ => s.size - (intOf a).toNat)
      case atStart => exact ⟨k + 1, [], by go_num, by omega, World.ownsRow_nil _ _ _ _, by simp, Below.refl _ _, HN⟩
      case round =>
        clear c0' HN hge
        obtain ⟨j, acc, rfl, hj, hown, hac, hb, HN⟩ := hrel
        by_cases hjl : j < s.size
        · have hj0 : s[j].toNat ≠ 34 := by
            intro e
            have e0 : s[j] = 34 := UInt8.toNat_inj.1 (by simpa using e)
            exact HN.out [] (s.data.toList.drop (j + 1)) (by rw [getD_drop0' s j hjl, e0]; rfl)
          have hj0' : ((s[j].toNat : Int) != 34) = true := by simp; omega
          clear hj0
          by_cases hr : (rfm (s.data.toList.drop j)).2 = 0
          · have HR := Lib.hid hr
            clear hr
            go_wp2_with fail
            refine (starts_miss s j (by omega) _ hs HR.out).mono ?_
            rintro e w1 ⟨rfl, b1⟩
            have hb1 := hb.trans (b1.mono hb.size)
            clear hown hb b1
            go_wp2
            go_ret3
            exact ⟨⟨_, rfl⟩, hb1⟩
          · obtain ⟨c, hc1, hc2, t, ht⟩ := rfm_inv _ hr
            have h4 := rfm_le (s.data.toList.drop j)
            have hrr : rfm (s.data.toList.drop j) = (c.toNat, (rfm (s.data.toList.drop j)).2) := by rw [← hc1]
            have HN2 : Hid (∀ m t, s.data.toList.drop (j + (rfm (s.data.toList.drop j)).2) ≠ flat m ++ 34 :: t) := fun m u e => by
              refine HN.out (c :: m) u ?_
              rw [← hc2, ← List.drop_drop, ht, List.drop_left] at e
              rw [ht, flat_cons, List.append_assoc, e]
            have HR := Lib.hid hrr
            generalize (rfm (s.data.toList.drop j)).2 = n at *
            clear hrr hc1 hc2 ht HN
            have hn1 : 1 ≤ n := by omega
            clear hr
            go_wp2_with fail
            refine (starts_hit s j (by omega) _ hs c.toNat n HR.out (by omega)).mono ?_
            rintro e w1 ⟨rfl, b1⟩
            have ho1 := own_frame hown b1
            have hb1 := hb.trans (b1.mono hb.size)
            have hs1 := hb1.size
            clear hown hb b1
            go_wp2_with (at_builtin; refine wpList_append_own _ rfl _ _ 43 rfl w.heap.size 5 i0 (.int .u8 0) 1 1 Tryd.underlying43 hi hz0 hz1 hz2 rfl (by decide) _ _ _ rfl (ho1.alloc _) ⟨w1.heap.size, 0, none⟩ 1 1 [.int .u8 c.toNat] rfl rfl ?d1 ?d2 ?d3 ?d4 ?d5 ?_)
            case d1 =>
              intro j u hj
              match j, hj with
              | 0, hj => simp at hj; subst hj; simp [Addr.add]
            case d2 => intro u hu; simp at hu; subst hu; rfl
            case d3 => unfold maxLen; omega
            case d4 => omega
            case d5 => simp; omega
            intro v' w2 hown' hgrow _
            have hb2 := (hb1.alloc hs1 (.cells #[.int .u8 c.toNat] 5)).grown hgrow (by simp; omega) (fun k hk => (ho1.lt k hk).1)
            have HO2 : Hid (w2.ownsRow w.heap.size 5 1 v' (acc ++ [c]).length (Lib.byteCells (acc ++ [c]))) := by
              show World.ownsRow _ _ _ _ _ _ _
              rw [Lib.byteCells_append, List.length_append]; exact hown'
            have HB2 := Lib.hid hb2
            clear hown' hgrow ho1 hb1 hb2
            go_wp2
            go_roundw
            case rel => exact ⟨j + n, acc ++ [c], by go_num, by omega, HO2.out, by simp; omega, HB2.out, HN2⟩
            case measure => simp [intOf]; omega
        · clear hown
          go_wp2_with fail
          go_ret3
          exact ⟨⟨_, rfl⟩, hb⟩
    · have c0' : ((s[k].toNat : Int) != 34) = true := by simp; omega
      clear c0 h
      go_enter Tryd.func36, Tryd.ntmps36
      go_wp2
      go_ret3
      exact ⟨⟨_, rfl⟩, Below.refl _ _⟩
  · clear h
    go_enter Tryd.func36, Tryd.ntmps36
    go_wp2
    go_ret3
    exact ⟨⟨_, rfl⟩, Below.refl _ _⟩

theorem refUnquote_ok (s : ByteArray) (m : List UInt8) (w : World) (hs : s.size ≤ 1000000) (h : s.data.toList = quoteL m) :
    Calls Tryd.prog 17 #[.string s] w fun e w' => e = .returned (.tuple #[.string ⟨m.toArray⟩, .int .i64 0]) ∧ Below w.heap.size w w' := by
  have hq := quoted_ok s 0 m [] w hs (by rw [List.drop_zero, List.append_nil]; exact h)
  have hl : (0 + (quoteL m).length) = s.size := by rw [← h, len_of]; omega
  rw [hl] at hq
  have HQ := Lib.hid hq
  clear hq hl h
  go_enter Tryd.func17, Tryd.ntmps17
  go_wp2_with fail
  refine HQ.out.mono ?_
  rintro e w1 ⟨rfl, b1⟩
  go_wp2
  go_ret2
  exact ⟨rfl, b1⟩

theorem refUnquote_bad (s : ByteArray) (w : World) (hs : s.size ≤ 1000000) (h : ∀ m, s.data.toList ≠ quoteL m) :
    Calls Tryd.prog 17 #[.string s] w fun e w' => e = .returned (.tuple #[.string ⟨#[]⟩, .int .i64 3]) ∧ Below w.heap.size w w' := by
  by_cases hx : ∃ m t, s.data.toList = quoteL m ++ t
  · obtain ⟨m, t, hm⟩ := hx
    have hq := quoted_ok s 0 m t w hs (by rw [List.drop_zero]; exact hm)
    have hne : (((0 + (quoteL m).length : Nat) : Int) != (s.size : Int)) = true := by
      have h1 := congrArg List.length hm
      rw [len_of, List.length_append] at h1
      have : t ≠ [] := fun e => h m (by rw [hm, e, List.append_nil])
      have : t.length ≠ 0 := by simpa using this
      apply bne_iff_ne.2; omega
    generalize 0 + (quoteL m).length = n at *
    have HQ := Lib.hid hq
    clear hq h hm
    go_enter Tryd.func17, Tryd.ntmps17
    go_wp2_with fail
    refine HQ.out.mono ?_
    rintro e w1 ⟨rfl, b1⟩
    go_wp2
    go_ret2
    exact ⟨rfl, b1⟩
  · have hq := quoted_bad s 0 (Nat.zero_le _) w hs (fun m t e => hx ⟨m, t, by rw [List.drop_zero] at e; exact e⟩)
    have HQ := Lib.hid hq
    clear hq h hx
    go_enter Tryd.func17, Tryd.ntmps17
    go_wp2_with fail
    refine HQ.out.mono ?_
    rintro e w1 ⟨⟨j, rfl⟩, b1⟩
    go_wp2
    go_ret2
    exact ⟨rfl, b1⟩

end Go.Proofs.YthbpmolookmjaaaDoor
