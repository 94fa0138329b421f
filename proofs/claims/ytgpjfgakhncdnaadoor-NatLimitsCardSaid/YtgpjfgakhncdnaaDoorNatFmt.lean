/-
  DERIVED. The walks of appendGroup, strconv.AppendUint and format.
-/
import Derived.Test.YtgpjfgakhncdnaaDoorNatTrim
import Derived.Test.YtgpjfgakhncdnaaDoorPureLim2
import Derived.Test.YtgpjfgakhncdnaaDoorShelf
import Derived.WalkSmall
import Derived.Deep.RegionWith
import Derived.BigRegion
namespace Go.Proofs.YtgpjfgakhncdnaaDoor
open Go.RowKit

def Tab (w : World) : Prop := Lib.TabIs Tryd.prog w "internal/strconv.uint64pow10" .u64 Lib.pow10Tab
theorem gTab : Tryd.prog.globalNamed "internal/strconv.uint64pow10" = some 3 := by kernel_rfl
theorem Tab.lt {w : World} (h : Tab w) : 3 < w.heap.size :=
  World.block_lt_of_cell? _ _ (Lib.TabIs.cell h gTab 0 (by decide))
theorem Tab.below {B : Nat} {w w' : World} (h : Tab w) (hB : w.heap.size ≤ B) (hb : Below B w w') : Tab w' := var?_below hb gTab (Nat.lt_of_lt_of_le h.lt hB) h

theorem own_string {W : World} {B : Nat} {v : Value} {n : Nat} {l : List UInt8} (h : W.ownsRow B 5 1 v n (Lib.byteCells l)) :
    (convert 33 9 v).run Tryd.prog W = .ok (.string ⟨l.toArray⟩) W := by
  have hl : l.length = n := by have := h.1; rw [Lib.byteCells_length] at this; omega
  subst hl
  have hcell := fun g hg => h.cells (g := g) hg
  rcases h.2 with ⟨rfl, h0⟩ | ⟨g, cap, cur, rfl, _, _, hnc, _⟩
  · have : l = [] := List.eq_nil_of_length_eq_zero h0
    subst this
    exact run_convert_bytes_nil W 33 5 Tryd.underlying33 Tryd.underlying5 0 0 _ Tryd.underlying9
  · refine run_convert_bytes_back W _ _ 5 _ cap l Tryd.underlying33 Tryd.underlying5 Tryd.underlying9 ?_
    intro j hj
    exact hcell g rfl j _ (by simp [Lib.byteCells, hj])
theorem own_frame {W W' : World} {B e size n : Nat} {v : Value} {xs : List Value} (h : W.ownsRow B e size v n xs) (hb : Below W.heap.size W W') : W'.ownsRow B e size v n xs := by
  refine ⟨h.1, ?_⟩
  rcases h.2 with hn | ⟨g, cap, cur, rfl, hbg, hgg, rest⟩
  · exact .inl hn
  · refine .inr ⟨g, cap, cur, rfl, hbg, ?_, rest⟩
    rw [hb.block g (Array.getElem?_eq_some_iff.1 hgg).1]; exact hgg

theorem appendUint_any (B n u : Nat) (hu : u < 18446744073709551616) (sv : Value) (xs : List Value) (w : World) (hown : w.ownsRow B 5 1 sv n xs) (hBw : B ≤ w.heap.size) (hlim : n ≤ 1000000000) (ht : Tab w) :
    Calls Tryd.prog 44 #[sv, .int .u64 u, .int .i64 10] w fun e w' => ∃ v', e = .returned v' ∧ w'.ownsRow B 5 1 v' (n + (Lib.decDigits u).length) (xs ++ Lib.byteCells (Lib.decDigits u)) ∧ Below B w w' := by
  rcases Nat.lt_or_ge u 100 with h | h
  · go_enter Tryd.func44, Tryd.ntmps44
    go_wp2_with (go_at_call 55; refine (Tryd.internal_strconv_AppendUint_10_small B n u h sv xs _ hown hBw (by omega)).mono ?_; rintro e w' ⟨v', rfl, h1, h2, _⟩)
    go_ret
    exact ⟨_, rfl, h1, h2⟩
  · go_enter Tryd.func44, Tryd.ntmps44
    go_wp2_with (go_at_call 55; refine (Tryd.internal_strconv_AppendUint_10_big B n u h hu sv xs _ hown hBw (by omega) ht).mono ?_; rintro e w' ⟨v', rfl, h1, h2, _⟩)
    go_ret
    exact ⟨_, rfl, h1, h2⟩

theorem info5a : (Tryd.prog.info? 5).map (fun i => (i.zero, i.size, i.bytes)) = some (some (.int .u8 0), 1, 1) := by kernel_rfl
theorem info5' : ∃ i, Tryd.prog.info? 5 = some i ∧ i.zero = some (.int .u8 0) ∧ i.size = 1 ∧ i.bytes = 1 := by
  have h := info5a
  cases hi : Tryd.prog.info? 5 with
  | none => rw [hi] at h; cases h
  | some i => rw [hi] at h; simp at h; exact ⟨i, rfl, h.1, h.2.1, h.2.2⟩
theorem bone_new (w : World) (x : Nat) : ∀ (j : Nat) (v : Value), [Value.int .u8 (48 + (x : Int))][j]? = some v → (w.alloc (.cells #[.int .u8 (48 + (x : Int))] 5)).cell? ((⟨w.heap.size, 0, none⟩ : Addr).add j) = some v := by
  intro j v hv
  match j, hv with
  | 0, hv => simp at hv; subst hv; simp [Addr.add]
theorem bone_cell (x : Nat) : ∀ v ∈ [Value.int .u8 (48 + (x : Int))], v.oneCell' = true := by
  intro v hv; simp at hv; subst hv; rfl
theorem bc_snoc (X : List UInt8) (d : Nat) (hd : d < 10) : Lib.byteCells (X ++ [dchr d]) = Lib.byteCells X ++ [.int .u8 (48 + (d : Int))] := by
  rw [Lib.byteCells_append]
  simp only [Lib.byteCells, List.map_cons, List.map_nil, dchr]
  rw [UInt8.toNat_ofNat_of_lt' (by simp [UInt8.size]; omega)]
  simp

set_option maxHeartbeats 1000000 in
theorem appendGroup_any (B n g : Nat) (hg : g < 1000000000) (sv : Value) (xs : List Value) (w : World) (hown : w.ownsRow B 5 1 sv n xs) (hBw : B ≤ w.heap.size) (hlim : n ≤ 1000000000) :
    Calls Tryd.prog 45 #[sv, .int .u64 g] w fun e w' => ∃ v', e = .returned v' ∧ w'.ownsRow B 5 1 v' (n + 9) (xs ++ Lib.byteCells (padL 9 g)) ∧ Below B w w' := by
  obtain ⟨i0, hi, hz0, hz1, hz2⟩ := info5'
  have HO := Lib.hid hown
  clear hown
  go_enter Tryd.func45, Tryd.ntmps45
  go_wp2
  go_loopw [0, 5] (fun v p wr => ∃ (m pw k : Nat) (X : List UInt8), p = .int .u64 pw ∧ m + k = 9 ∧ Hid (pw = 10 ^ m / 10) ∧ Hid (X.length = k) ∧ wr.ownsRow B 5 1 v (n + k) (xs ++ Lib.byteCells X) ∧ Hid (X ++ padL m g = padL 9 g) ∧ Below B w wr) (fun _ p _ => (intOf p).toNat)
  case atStart => exact ⟨9, 100000000, 0, [], rfl, rfl, by show _ = _; decide, rfl, by rw [show Lib.byteCells [] = [] from rfl, List.append_nil]; exact HO.out, rfl, Below.refl _ _⟩
  case round =>
    clear HO
    obtain ⟨m, pw, k, X, rfl, hmk, HP, HK, hown, HX, hb⟩ := hrel
    have hsz : B ≤ wr.heap.size := Nat.le_trans hBw hb.size
    match m, hmk, HP, HX with
    | 0, hmk, HP, HX =>
      have hp : pw = 0 := HP.out
      subst hp
      have hk : k = 9 := by omega
      subst hk
      have HXE : Hid (X = padL 9 g) := by have h := HX.out; rw [show padL 0 g = [] from rfl, List.append_nil] at h; exact h
      go_wp2
      go_ret
      exact ⟨_, rfl, by rw [← HXE.out]; exact hown, hb⟩
    | j + 1, hmk, HP, HX =>
      have hpe : pw = 10 ^ j := by rw [HP.out, Nat.pow_succ]; omega
      have hp0 : 0 < pw := by rw [hpe]; exact ten_pos j
      have hpI : (0 : Int) < (pw : Int) := by omega
      have hp9 : pw ≤ 1000000000 := by rw [hpe]; exact Nat.pow_le_pow_right (by omega) (show j ≤ 9 by omega)
      obtain ⟨d, hd⟩ : ∃ d, g / 10 ^ j % 10 = d := ⟨_, rfl⟩
      have hd9 : d < 10 := by omega
      obtain ⟨q, hq⟩ : ∃ q, g / pw = q := ⟨_, rfl⟩
      have hqd : q % 10 = d := by rw [← hq, hpe]; exact hd
      have hqg : q ≤ g := by rw [← hq]; exact Nat.div_le_self _ _
      have hw1 : IntKind.u64.wrap ((g : Int) / (pw : Int)) = (q : Int) := by
        rw [show ((g : Int) / (pw : Int)) = (q : Int) by rw [← hq]; rfl]
        exact IntWalk.u64_in _ (by omega)
      have hw2 : (q : Int).tmod 10 = (d : Int) := by rw [← hqd]; rfl
      have hw3 : IntKind.u64.wrap (48 + (d : Int)) = 48 + (d : Int) := IntWalk.u64_in _ (by omega)
      have hw4 : (48 + (d : Int)) % 256 = 48 + (d : Int) := by omega
      clear hq hqd hqg
      have HX2 : Hid ((X ++ [dchr d]) ++ padL j g = padL 9 g) := by show _ = _; rw [List.append_assoc, List.singleton_append, padL_cons j g d hd]; exact HX.out
      have HP2 : Hid (pw / 10 = 10 ^ j / 10) := by show _ = _; rw [hpe]
      have hpd : pw / 10 < pw := by omega
      clear hpe hd HP HX
      have HOW := Lib.hid (hown.alloc (.cells #[.int .u8 (48 + (d : Int))] 5))
      have hmax : n + k + 1 ≤ maxLen := by unfold maxLen; omega
      go_wp2_with (at_builtin; refine wpList_append_own _ rfl _ _ 33 rfl B 5 i0 (.int .u8 0) 1 1 Tryd.underlying33 hi hz0 hz1 hz2 rfl (by decide) _ _ _ rfl HOW.out ⟨wr.heap.size, 0, none⟩ 1 1 [.int .u8 (48 + (d : Int))] rfl rfl (bone_new wr d) (bone_cell d) hmax ?d4 ?d5 ?_)
      case d4 => omega
      case d5 => simp; omega
      intro v2 w2 hown2 hgrow2 _
      have HB2 := Lib.hid ((hb.alloc hsz (.cells #[.int .u8 (48 + (d : Int))] 5)).grown hgrow2 (by simp; omega) (fun k hk => (hown.lt k hk).1))
      have HO2 : Hid (w2.ownsRow B 5 1 v2 (n + (k + 1)) (xs ++ Lib.byteCells (X ++ [dchr d]))) := by
        show World.ownsRow _ _ _ _ _ _ _
        rw [bc_snoc X d hd9]; exact hown2
      have HK2 : Hid ((X ++ [dchr d]).length = k + 1) := by show _ = _; rw [List.length_append, HK.out]; rfl
      clear hown2 hgrow2 HOW hown hb
      go_wp2
      go_roundw
      case rel => exact ⟨j, pw / 10, k + 1, X ++ [dchr d], by go_num, by omega, HP2, HK2, HO2.out, HX2, HB2.out⟩
      case measure => simp [intOf]; omega

end Go.Proofs.YtgpjfgakhncdnaaDoor
