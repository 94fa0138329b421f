/-
  DERIVED. The walks of Quote, Unquote, Join, Decimal.
-/
import Derived.Test.YthbpmolookmjaaaDoorQuote
import Derived.Test.YthbpmolookmjaaaDoorPure3
namespace Go.Proofs.YthbpmolookmjaaaDoor
open Go.RowKit

theorem fresh_bld (w : World) : Bld w.heap.size w.heap.size [] (w.alloc (.cells #[.pointer none, .slice none 0 0] 46)) :=
  Lib.IsBuilderF.of (Lib.fresh_isBuilder 46 5 w)
theorem formL_le (c : Nat) : (formL c).length ≤ 4 := by
  unfold formL
  split
  · simp
  · split
    · simp
    · split
      · simp
      · split <;> simp
theorem flat_le (m : List UInt8) : (flat m).length ≤ 4 * m.length := by
  induction m with
  | nil => simp [flat]
  | cons c m ih => rw [flat_cons, List.length_append, List.length_cons]; have := formL_le c.toNat; omega
theorem flat_step (s : ByteArray) (k : Nat) (h : k < s.size) : flat (s.data.toList.take (k + 1)) = flat (s.data.toList.take k) ++ formL s[k].toNat := by
  rw [take_snoc s k h, flat_snoc]

set_option maxHeartbeats 400000 in
theorem quote_any (s : ByteArray) (w : World) (hs : s.size ≤ 1000000) :
    Calls Tryd.prog 15 #[.string s] w fun e w' => e = .returned (.string ⟨(quoteL s.data.toList).toArray⟩) ∧ Below w.heap.size w w' := by
  have h0 := fresh_bld w
  have hz : w.heap.size ≤ (w.alloc (.cells #[.pointer none, .slice none 0 0] 46)).heap.size := by simp
  have hb0 : Below w.heap.size w (w.alloc (.cells #[.pointer none, .slice none 0 0] 46)) := (Below.refl _ w).alloc (Nat.le_refl _) _
  go_enter Tryd.func15, Tryd.ntmps15
  go_wp2_with fail
  refine (wByteN w.heap.size w.heap.size [] 34 (by omega) _ h0 (by simp) hz).mono ?_
  rintro e w1 ⟨rfl, h1, b1⟩
  have hb1 := hb0.trans b1
  clear h0 hz hb0 b1
  go_wp2_with fail
  go_loopw [4] (fun i wr => ∃ k : Nat, k ≤ s.size ∧ i = .int .i64 k ∧ Bld w.heap.size w.heap.size (34 :: flat (s.data.toList.take k)) wr ∧ Below w.heap.size w wr) (fun i _ => s.size - (intOf i).toNat)
  case atStart => exact ⟨0, Nat.zero_le _, rfl, by rw [List.take_zero]; exact h1, hb1⟩
  case round =>
    clear h1 hb1
    obtain ⟨k, hk, rfl, hI, hb⟩ := hrel
    have hle := flat_le (s.data.toList.take k)
    have hle2 : (s.data.toList.take k).length ≤ k := List.length_take_le _ _
    have hsz := hb.size
    by_cases hlt : k < s.size
    · have HF := Lib.hid (flat_step s k hlt)
      go_wp2_with fail
      refine (writeForm_any w.heap.size w.heap.size _ _ _ hI (by rw [List.length_cons]; omega) (by omega)).mono ?_
      rintro e w2 ⟨rfl, h2, b2⟩
      have hb2 := hb.trans b2
      clear hI hb b2
      go_wp2
      go_roundw
      case rel => exact ⟨k + 1, by omega, by go_num, by rw [HF.out]; exact h2, hb2⟩
      case measure => simp [intOf]; omega
    · have hk' : k = s.size := by omega
      subst hk'
      have HT := Lib.hid (show s.data.toList.take s.size = s.data.toList from List.take_of_length_le (by simp))
      go_wp2_with fail
      refine (wByteN w.heap.size w.heap.size _ 34 (by omega) _ hI (by rw [List.length_cons]; omega) (by omega)).mono ?_
      rintro e w2 ⟨rfl, h2, b2⟩
      have hb2 := hb.trans b2
      have hsz2 := hb2.size
      clear hI hb b2
      go_wp2_with fail
      refine (Tryd.Builder_String_any_k w.heap.size w.heap.size _ _ h2 (by omega)).mono ?_
      rintro e w3 ⟨rfl, _, b3, _⟩
      go_wp2
      go_ret
      exact ⟨ret_str (by rw [HT.out]; rfl), hb2.trans b3⟩

theorem below_grow {B : Nat} (w : World) (h : B ≤ w.heap.size) (os : Array Obj) : Below B w (Sort.grow w os) :=
  ⟨rfl, rfl, rfl, by simp [Sort.grow], fun k hk => by simp only [Sort.grow]; rw [Array.getElem?_append_left (by omega)]⟩
theorem decimal_any (n : Int) (h0 : -9223372036854775808 ≤ n) (h1 : n ≤ 9223372036854775807) (w : World)
    (htab : Lib.TabIs Tryd.prog w "internal/strconv.uint64pow10" .u64 Lib.pow10Tab) :
    Calls Tryd.prog 13 #[.int .i64 n] w fun e w' => e = .returned (.string ⟨(Lib.itoa n).toArray⟩) ∧ Below w.heap.size w w' := by
  go_enter Tryd.func13, Tryd.ntmps13
  go_wp2_with fail
  refine (Tryd.strconv_Itoa n h0 h1 _ htab).mono ?_
  rintro e w' ⟨rfl, k, os, hw⟩
  have hb : Below w.heap.size w w' := by
    rw [hw]
    exact (below_drewN (Below.refl _ w) k).trans (below_grow (w.drewN k) (Nat.le_refl _) os)
  clear hw
  go_wp2
  go_ret
  exact ⟨rfl, hb⟩

theorem join_any (bk o c : Nat) (xs : List ByteArray) (w : World)
    (hcells : ∀ (j : Nat) x, xs[j]? = some x → w.cell? ⟨bk, o + j, none⟩ = some (.string x))
    (hbk : bk < w.heap.size) (hN : xs.length ≤ 140737488355328) (hcap : xs.length ≤ c)
    (hlen : (Lib.join (xs.map (·.data.toList)) [32]).length ≤ 140737488355328) :
    Calls Tryd.prog 21 #[.slice (some ⟨bk, o, none⟩) xs.length c] w fun e w' => e = .returned (.string ⟨(Lib.join (xs.map (·.data.toList)) [32]).toArray⟩) ∧ Below w.heap.size w w' := by
  go_enter Tryd.func21, Tryd.ntmps21
  go_wp2_with fail
  refine (Tryd.strings_Join bk o c xs ⟨#[32]⟩ _ hcells hbk hN hcap hlen).mono ?_
  rintro e w' ⟨rfl, hb⟩
  go_wp2
  go_ret
  exact ⟨rfl, hb⟩
theorem join_nil (a : Option Addr) (c : Nat) (w : World) :
    Calls Tryd.prog 21 #[.slice a 0 c] w fun e w' => e = .returned (.string ⟨#[]⟩) ∧ Below w.heap.size w w' := by
  go_enter Tryd.func21, Tryd.ntmps21
  go_wp2_with fail
  refine (Tryd.strings_Join_none a c ⟨#[32]⟩ _).mono ?_
  rintro e w' ⟨rfl, hw⟩
  have hb : Below w.heap.size w w' := hw ▸ Below.refl _ _
  clear hw
  go_wp2
  go_ret
  exact ⟨rfl, hb⟩

theorem quoteL_len (m : List UInt8) : (quoteL m).length = (flat m).length + 2 := by simp [quoteL]
theorem inner_of (s : ByteArray) (m : List UInt8) (h : s.data.toList = quoteL m) : (s.extract 1 (s.size - 1)).data.toList = flat m := by
  have hl : s.size = (flat m).length + 2 := by rw [← len_of, h, quoteL_len]
  rw [Lib.extract_data, h, hl]
  simp [quoteL]

set_option maxHeartbeats 400000 in
theorem unquote_bad (s : ByteArray) (w : World) (hs : s.size ≤ 1000000) (h : ∀ m, s.data.toList ≠ quoteL m) :
    Calls Tryd.prog 16 #[.string s] w fun e w' => e = .returned (.tuple #[.string ⟨#[]⟩, .int .i64 3]) ∧ Below w.heap.size w w' := by
  by_cases hz : s.size = 0
  · have hs := empty_of s hz
    subst hs
    go_enter Tryd.func16, Tryd.ntmps16
    go_wp2
    go_ret2
    exact ⟨rfl, Below.refl _ _⟩
  have h0 : 0 < s.size := by omega
  have hE := isE s h0
  have hE' := notE s h0
  have hne : qlen s.data.toList ≠ s.size := by
    intro e
    obtain ⟨m, t, hm⟩ := qlen_inv s.data.toList (by omega)
    have h1 := qlen_quoteL m t
    rw [← hm, e, ← len_of, hm, List.length_append] at h1
    have ht : t = [] := List.eq_nil_of_length_eq_zero (by omega)
    rw [ht, List.append_nil] at hm
    exact h m hm
  have hne' : ((qlen s.data.toList : Int) != (s.size : Int)) = true := by simp; omega
  clear hne h
  go_enter Tryd.func16, Tryd.ntmps16
  go_wp2_with (go_at_call 34; refine (quotedLength_any _ _ (by omega)).mono ?_; rintro e w' ⟨rfl, rfl⟩)
  go_ret2
  exact ⟨rfl, Below.refl _ _⟩

set_option maxHeartbeats 1000000 in
theorem unquote_ok (s : ByteArray) (m : List UInt8) (w : World) (hs : s.size ≤ 1000000) (h : s.data.toList = quoteL m) :
    Calls Tryd.prog 16 #[.string s] w fun e w' => e = .returned (.tuple #[.string ⟨m.toArray⟩, .int .i64 0]) ∧ Below w.heap.size w w' := by
  have hl : s.size = (flat m).length + 2 := by rw [← len_of, h, quoteL_len]
  have hm : m.length ≤ (flat m).length := by
    clear h hl
    induction m with
    | nil => simp
    | cons c m ih => rw [flat_cons, List.length_append, List.length_cons]; have := formL_pos c.toNat; omega
  have h0 : 0 < s.size := by omega
  have h2 : 2 ≤ s.size := by omega
  have hE := isE s h0
  have hE' := notE s h0
  have hq : qlen s.data.toList = s.size := by
    have := qlen_quoteL m []
    rw [List.append_nil] at this
    rw [h, this, quoteL_len, hl]
  have hq' : ((qlen s.data.toList : Int) != (s.size : Int)) = false := by simp; omega
  have HIN := Lib.hid (inner_of s m h)
  have hms : m.length ≤ s.size := by omega
  clear hq h hl hm
  have hb0 := fresh_bld w
  have hbe : Below w.heap.size w (w.alloc (.cells #[.pointer none, .slice none 0 0] 46)) := (Below.refl _ w).alloc (Nat.le_refl _) _
  have HB0 := Lib.hid hb0
  have HBE := Lib.hid hbe
  clear hb0 hbe
  go_enter Tryd.func16, Tryd.ntmps16
  go_wp2_with (go_at_call 34; refine (quotedLength_any _ _ (by omega)).mono ?_; rintro e w' ⟨rfl, rfl⟩)
  go_loopw [5] (fun c wr => ∃ (cur : ByteArray) (acc rest : List UInt8), c = .string cur ∧ Hid (cur.data.toList = flat rest) ∧ Hid (acc ++ rest = m) ∧ acc.length ≤ s.size ∧ Bld w.heap.size w.heap.size acc wr ∧ Below w.heap.size w wr) (fun c _ => szOf c)
  case atStart => exact ⟨_, [], m, rfl, HIN, rfl, by simp, HB0.out, HBE.out⟩
  case round =>
    clear HB0 HBE HIN hq' hE hE'
    obtain ⟨cur, acc, rest, rfl, HC, HA, hacc, hI, hb⟩ := hrel
    have hsz := hb.size
    match rest, HC, HA with
    | [], HC, HA =>
      have hcur : cur = ⟨#[]⟩ := by apply empty_of; rw [← len_of, HC.out]; rfl
      subst hcur
      go_wp2_with fail
      refine (Tryd.Builder_String_any_k w.heap.size w.heap.size _ _ hI (by omega)).mono ?_
      rintro e w3 ⟨rfl, _, b3, _⟩
      have hm : acc = m := by have := HA.out; simpa using this
      have HM := Lib.hid hm
      clear hm
      go_wp2
      go_ret2
      exact ⟨by rw [HM.out]; rfl, hb.trans b3⟩
    | c :: rest, HC, HA =>
      have hcs : cur.data.toList = formL c.toNat ++ flat rest := HC.out
      have hr := rfm_form c (flat rest)
      rw [← hcs] at hr
      have hlen : cur.size = (formL c.toNat).length + (flat rest).length := by rw [← len_of, hcs, List.length_append]
      have hfp := formL_pos c.toNat
      have hfl := formL_le c.toNat
      have hcp : 0 < cur.size := by omega
      have hd : (cur.extract (formL c.toNat).length cur.size).data.toList = flat rest := by rw [drop_ext, hcs, List.drop_left]
      have hml : acc.length + 1 ≤ s.size := by have := congrArg List.length HA.out; simp at this; omega
      have hE := isE cur hcp
      have hE' := notE cur hcp
      have HD := Lib.hid hd
      have HA' : Hid (acc ++ [c] ++ rest = m) := by show _ = _; rw [← HA.out]; simp
      generalize (formL c.toNat).length = n at *
      have hn : n ≤ cur.size := by omega
      clear hcs hlen hd HC HA
      go_wp2_with (go_at_call 35; refine (readForm_any _ _).mono ?_; rintro e w' ⟨rfl, rfl⟩)
      refine (wByte w.heap.size w.heap.size _ _ _ hI (by omega) (by omega)).mono ?_
      rintro e w3 ⟨rfl, h3, b3⟩
      have hb3 := hb.trans b3
      clear hI hb b3
      go_wp2
      go_roundw
      case rel => exact ⟨_, acc ++ [c], rest, rfl, HD, HA', by simp; omega, h3, hb3⟩
      case measure => simp [szOf]; omega

end Go.Proofs.YthbpmolookmjaaaDoor
