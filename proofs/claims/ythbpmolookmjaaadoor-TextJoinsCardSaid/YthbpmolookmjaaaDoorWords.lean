/-
  DERIVED. The walks of partLength and Words.
-/
import Derived.Test.YthbpmolookmjaaaDoorQlen
import Derived.Test.YthbpmolookmjaaaDoorPure2
namespace Go.Proofs.YthbpmolookmjaaaDoor
open Go.RowKit

set_option maxHeartbeats 400000 in
theorem partLength_any (s : ByteArray) (w : World) (hs : s.size ≤ 1000000000) :
    Calls Tryd.prog 38 #[.string s] w fun e w' => e = .returned (.int .i64 (plen s.data.toList)) ∧ w = w' := by
  have hle := plen_le s.data.toList
  rw [len_of] at hle
  by_cases hq : 0 < qlen s.data.toList
  · have HR : Hid (plen s.data.toList = qlen s.data.toList) := by show _ = _; rw [plen, if_pos hq]
    go_enter Tryd.func38, Tryd.ntmps38
    go_wp2_with (go_at_call 34; refine (quotedLength_any _ _ hs).mono ?_; rintro e w' ⟨rfl, rfl⟩)
    go_ret
    exact ⟨ret_int (by rw [HR.out]), rfl⟩
  · have HR : Hid (plen s.data.toList = (s.data.toList.takeWhile fun c => wrd c.toNat).length) := by show _ = _; rw [plen, if_neg hq]
    have hq' : qlen s.data.toList = 0 := by omega
    clear hq hle
    go_enter Tryd.func38, Tryd.ntmps38
    go_wp2_with (go_at_call 34; refine (quotedLength_any _ _ hs).mono ?_; rintro e w' ⟨rfl, rfl⟩)
    go_loop [4] (fun i => ∃ k : Nat, k ≤ s.size ∧ i = .int .i64 k ∧ Hid ((s.data.toList.take k).all (fun c => wrd c.toNat) = true)) (fun i => s.size - (intOf i).toNat)
    case atStart => exact ⟨0, Nat.zero_le _, rfl, by rw [List.take_zero]; rfl⟩
    case round =>
      clear hq'
      obtain ⟨k, hk, rfl, HA⟩ := hrel
      by_cases hlt : k < s.size
      · cases hw : wrd s[k].toNat
        · have HK : Hid (plen s.data.toList = k) := by show _ = _; rw [HR.out]; exact takeWhile_len s _ k hk HA.out (Or.inr ⟨hlt, hw⟩)
          go_wp2_with (go_at_call 50; refine (isWordByte_any _ _).mono ?_; rintro e w' ⟨rfl, rfl⟩)
          go_ret
          exact ⟨ret_int (by rw [HK.out]), rfl⟩
        · have HA' := Lib.hid (all_step s (fun c => wrd c.toNat) k hlt HA.out hw)
          go_wp2_with (go_at_call 50; refine (isWordByte_any _ _).mono ?_; rintro e w' ⟨rfl, rfl⟩)
          go_round
          case rel => exact ⟨k + 1, by omega, by go_num, HA'⟩
          case measure => simp [intOf]; omega
      · have hk' : k = s.size := by omega
        subst hk'
        have HK : Hid (plen s.data.toList = s.size) := by show _ = _; rw [HR.out]; exact takeWhile_len s _ _ hk HA.out (Or.inl rfl)
        go_wp2
        go_ret
        exact ⟨ret_int (by rw [HK.out]), rfl⟩

theorem drop_ext (s : ByteArray) (k : Nat) : (s.extract k s.size).data.toList = s.data.toList.drop k := by rw [Lib.extract_data, List.take_of_length_le (by simp)]
/-- a text as a value -/
def strV (l : List UInt8) : Value := .string ⟨l.toArray⟩
theorem info9 : (Tryd.prog.info? 9).map (fun i => (i.zero, i.size, i.bytes)) = some (some (.string ByteArray.empty), 1, 16) := by kernel_rfl

def szOf : Value → Nat
  | .string b => b.size
  | _ => 0
/-- what Words returns -/
def WordsPost (l : List UInt8) (B : Nat) (w : World) (e : Ending) (w' : World) : Prop :=
  Below B w w' ∧ match wordsL l with
    | none => e = .returned (.tuple #[.slice none 0 0, .int .i64 3])
    | some ps => ∃ v, e = .returned (.tuple #[v, .int .i64 0]) ∧ w'.ownsRow B 9 1 v ps.length (ps.map strV)

theorem words_none {l : List UInt8} {B : Nat} {w w' : World} (h : wordsL l = none) (hb : Below B w w') : WordsPost l B w (.returned (.tuple #[.slice none 0 0, .int .i64 3])) w' := by
  refine ⟨hb, ?_⟩; rw [h]
theorem words_some {l : List UInt8} {ps : List (List UInt8)} {v : Value} {B : Nat} {w w' : World} (h : wordsL l = some ps) (hb : Below B w w') (ho : w'.ownsRow B 9 1 v ps.length (ps.map strV)) : WordsPost l B w (.returned (.tuple #[v, .int .i64 0])) w' := by
  refine ⟨hb, ?_⟩; rw [h]; exact ⟨v, rfl, ho⟩

set_option maxRecDepth 100000 in
set_option maxHeartbeats 1000000 in
theorem words_any (s : ByteArray) (w : World) (hs : s.size ≤ 1000000) :
    Calls Tryd.prog 19 #[.string s] w (WordsPost s.data.toList w.heap.size w) := by
  by_cases h : s.size = 0
  · have hs := empty_of s h
    subst hs
    go_enter Tryd.func19, Tryd.ntmps19
    go_wp2
    go_ret2
    exact words_some (ps := []) rfl (Below.refl _ _) (World.ownsRow_nil _ _ _ _)
  have h0 : 0 < s.size := by omega
  have hE := isE s h0
  have hE' := notE s h0
  have HR : Hid (wordsL s.data.toList = wgo (s.size + 1) s.data.toList) := by show _ = _; rw [wordsL, if_neg (by rw [len_of]; omega), len_of]
  obtain ⟨i0, hi, hz0, hz1, hz2⟩ := info_parts info9
  go_enter Tryd.func19, Tryd.ntmps19
  go_wp2_with fail
  go_loopw [0, 4] (fun c v wr => ∃ (cur : ByteArray) (acc : List (List UInt8)) (f : Nat), c = .string cur ∧ acc.length + cur.size ≤ s.size ∧ cur.size < f ∧ wr.ownsRow w.heap.size 9 1 v acc.length (acc.map strV) ∧ Below w.heap.size w wr ∧ Hid (wordsL s.data.toList = (wgo f cur.data.toList).map (acc ++ ·)))
    (fun c _ _ => szOf c)
  case atStart => exact ⟨s, [], s.size + 1, rfl, by simp, by omega, World.ownsRow_nil _ _ _ _, Below.refl _ _, by show _ = _; rw [HR.out]; cases wgo (s.size + 1) s.data.toList <;> simp⟩
  case round =>
    clear HR hE hE'
    obtain ⟨cur, acc, f, rfl, hac, hf, hown, hbw, HR⟩ := hrel
    obtain ⟨f, rfl⟩ : ∃ g, f = g + 1 := ⟨f - 1, by omega⟩
    have hle := plen_le cur.data.toList
    rw [len_of] at hle
    by_cases hn : plen cur.data.toList = 0
    · have HK : Hid (wordsL s.data.toList = none) := by show _ = _; rw [HR.out, wgo_none _ _ hn]; rfl
      have hn' : ((plen cur.data.toList : Int) == 0) = true := by simp; omega
      clear hn
      go_wp2_with (go_at_call 38; refine (partLength_any _ _ (by omega)).mono ?_; rintro e w' ⟨rfl, rfl⟩)
      go_ret2
      exact words_none HK.out hbw
    · have HN : Hid _ := wgo_last cur.data.toList f hn
      have HB : Hid _ := wgo_bad cur.data.toList f hn
      have HX : Hid _ := wgo_next cur.data.toList f hn
      have hn1 : 1 ≤ plen cur.data.toList := by omega
      obtain ⟨n, hN⟩ : ∃ n, plen cur.data.toList = n := ⟨_, rfl⟩
      rw [hN] at hle hn1
      have hz : ((n : Int) == 0) = false := by simp; omega
      have hst : strV (cur.data.toList.take n) = .string (cur.extract 0 n) := by rw [strV, Lib.extract_eq]; simp
      have HST := Lib.hid hst
      clear hn hst
      by_cases hl : n = cur.size
      · have HK : Hid (wordsL s.data.toList = some (acc ++ [cur.data.toList.take n])) := by show _ = _; rw [HR.out, HN.out (by rw [hN, len_of]; exact hl), hN]; rfl
        have hl' : ((n : Int) == (cur.size : Int)) = true := by simp; omega
        clear HN HB HX HR hl
        go_wp2_with (first
          | (go_at_call 38; refine (partLength_any _ _ (by omega)).mono ?_; rintro e w' ⟨rfl, rfl⟩)
          | (at_builtin; refine wpList_append_own _ rfl _ _ 32 rfl w.heap.size 9 i0 (.string ByteArray.empty) 1 16 Tryd.underlying32 hi hz0 hz1 hz2 rfl (by decide) _ _ _ rfl (hown.alloc _) ⟨wr.heap.size, 0, none⟩ 1 1 [.string (cur.extract 0 n)] rfl rfl ?b1 ?b2 ?b3 ?b4 ?b5 ?_))
        case b1 =>
          intro j u hj
          match j, hj with
          | 0, hj => simp at hj; subst hj; simp [Addr.add]
        case b2 => intro u hu; simp at hu; subst hu; rfl
        case b3 => unfold maxLen; omega
        case b4 => omega
        case b5 => have := hbw.size; simp; omega
        intro v' w1 hown' hgrow _
        have hb1 : Below w.heap.size w w1 := (hbw.alloc (by have := hbw.size; omega) _).grown hgrow (by have := hbw.size; simp; omega) (fun k hk => (hown.lt k hk).1)
        have ho1 : w1.ownsRow w.heap.size 9 1 v' (acc ++ [cur.data.toList.take n]).length ((acc ++ [cur.data.toList.take n]).map strV) := by
          rw [List.map_append, List.length_append, List.map_cons, List.map_nil, HST.out]; exact hown'
        clear hown' hgrow hown hbw
        have HB1 := Lib.hid hb1
        have HO1 := Lib.hid ho1
        clear hb1 ho1
        go_wp2
        go_ret2
        exact words_some HK.out HB1.out HO1.out
      · have hl' : ((n : Int) == (cur.size : Int)) = false := by simp; omega
        have hlt : n < cur.size := by omega
        have hg := getD_of cur n hlt
        by_cases h32 : cur[n].toNat = 32
        · have HK : Hid (wordsL s.data.toList = (wgo f (cur.data.toList.drop (n + 1))).map ((acc ++ [cur.data.toList.take n]) ++ ·)) := by
            show _ = _
            rw [HR.out, HX.out (by rw [hN, len_of]; exact hl) (by rw [hN, hg]; exact h32), hN, Option.map_map]
            congr 1
            funext x
            simp
          have h32' : ((cur[n].toNat : Int) != 32) = false := by simp; omega
          clear HN HB HX HR hl h32 hg
          go_wp2_with (first
            | (go_at_call 38; refine (partLength_any _ _ (by omega)).mono ?_; rintro e w' ⟨rfl, rfl⟩)
            | (at_builtin; refine wpList_append_own _ rfl _ _ 32 rfl w.heap.size 9 i0 (.string ByteArray.empty) 1 16 Tryd.underlying32 hi hz0 hz1 hz2 rfl (by decide) _ _ _ rfl (hown.alloc _) ⟨wr.heap.size, 0, none⟩ 1 1 [.string (cur.extract 0 n)] rfl rfl ?c1 ?c2 ?c3 ?c4 ?c5 ?_))
          case c1 =>
            intro j u hj
            match j, hj with
            | 0, hj => simp at hj; subst hj; simp [Addr.add]
          case c2 => intro u hu; simp at hu; subst hu; rfl
          case c3 => unfold maxLen; omega
          case c4 => omega
          case c5 => have := hbw.size; simp; omega
          intro v' w1 hown' hgrow _
          have hb1 : Below w.heap.size w w1 := (hbw.alloc (by have := hbw.size; omega) _).grown hgrow (by have := hbw.size; simp; omega) (fun k hk => (hown.lt k hk).1)
          have ho1 : w1.ownsRow w.heap.size 9 1 v' (acc ++ [cur.data.toList.take n]).length ((acc ++ [cur.data.toList.take n]).map strV) := by
            rw [List.map_append, List.length_append, List.map_cons, List.map_nil, HST.out]; exact hown'
          clear hown' hgrow hown hbw
          have HB1 := Lib.hid hb1
          have HO1 := Lib.hid ho1
          clear hb1 ho1
          go_wp2
          go_roundw
          case rel => exact ⟨cur.extract (n + 1) cur.size, acc ++ [cur.data.toList.take n], f, rfl, by simp; omega, by simp; omega, HO1.out, HB1.out, by show _ = _; rw [HK.out, drop_ext]⟩
          case measure => simp [szOf]; omega
        · have HK : Hid (wordsL s.data.toList = none) := by show _ = _; rw [HR.out, HB.out (by rw [hN, len_of]; exact hl) (by rw [hN, hg]; exact h32)]; rfl
          have h32' : ((cur[n].toNat : Int) != 32) = true := by simp; omega
          clear HN HB HX HR hl h32 hg
          go_wp2_with (first
            | (go_at_call 38; refine (partLength_any _ _ (by omega)).mono ?_; rintro e w' ⟨rfl, rfl⟩)
            | (at_builtin; refine wpList_append_own _ rfl _ _ 32 rfl w.heap.size 9 i0 (.string ByteArray.empty) 1 16 Tryd.underlying32 hi hz0 hz1 hz2 rfl (by decide) _ _ _ rfl (hown.alloc _) ⟨wr.heap.size, 0, none⟩ 1 1 [.string (cur.extract 0 n)] rfl rfl ?d1 ?d2 ?d3 ?d4 ?d5 ?_))
          case d1 =>
            intro j u hj
            match j, hj with
            | 0, hj => simp at hj; subst hj; simp [Addr.add]
          case d2 => intro u hu; simp at hu; subst hu; rfl
          case d3 => unfold maxLen; omega
          case d4 => omega
          case d5 => have := hbw.size; simp; omega
          intro v' w1 hown' hgrow _
          have hb1 : Below w.heap.size w w1 := (hbw.alloc (by have := hbw.size; omega) _).grown hgrow (by have := hbw.size; simp; omega) (fun k hk => (hown.lt k hk).1)
          clear hown' hgrow hown hbw
          have HB1 := Lib.hid hb1
          clear hb1
          go_wp2
          go_ret2
          exact words_none HK.out HB1.out

end Go.Proofs.YthbpmolookmjaaaDoor
