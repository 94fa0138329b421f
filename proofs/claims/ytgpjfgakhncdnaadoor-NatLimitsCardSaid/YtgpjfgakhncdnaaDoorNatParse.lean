/-
  DERIVED. The walk of parse.
-/
import Derived.Test.YtgpjfgakhncdnaaDoorNatTrim
import Derived.Test.YtgpjfgakhncdnaaDoorPureLim2
namespace Go.Proofs.YtgpjfgakhncdnaaDoor
open Go.RowKit

theorem Rw.own {w : World} {g cap n : Nat} {l : List Nat} (h : Rw w g cap l) (hn : l.length = n) : w.ownsRow 0 51 1 (.slice (some ⟨g, 0, none⟩) n cap) n (l.map u64) := by subst hn; exact h
theorem Rw.of_own {w : World} {g cap n x : Nat} {l : List Nat} (hn : l.length = n) (h : w.ownsRow 0 51 1 (.slice (some ⟨g, 0, none⟩) (n + 1) cap) (n + 1) (l.map u64 ++ [.int .u64 (x : Int)])) : Rw w g cap (l ++ [x]) := by
  subst hn
  unfold Rw
  rw [List.map_append, List.length_append]
  exact h

theorem one_new (w : World) (x : Nat) : ∀ (j : Nat) (v : Value), [Value.int .u64 (x : Int)][j]? = some v → (w.alloc (.cells #[.int .u64 (x : Int)] 51)).cell? ((⟨w.heap.size, 0, none⟩ : Addr).add j) = some v := by
  intro j v hv
  match j, hv with
  | 0, hv => simp at hv; subst hv; simp [Addr.add]
theorem one_cell (x : Nat) : ∀ v ∈ [Value.int .u64 (x : Int)], v.oneCell' = true := by
  intro v hv; simp at hv; subst hv; rfl

set_option maxHeartbeats 2000000 in
theorem parse_str (u : Nat) (s : ByteArray) (hs : s = num u) (w : World) (hL : s.size ≤ 100000) :
    Calls Tryd.prog 30 #[.string s] w fun e w' => ∃ g cap, e = .returned (.slice (some ⟨g, 0, none⟩) (limbs u).length cap) ∧ Rw w' g cap (limbs u) ∧ w.heap.size ≤ g ∧ Below w.heap.size w w' := by
  obtain ⟨i0, hi, hz0, hz1, hz2⟩ := info51'
  have HB : Hid (∀ i (h : i < s.size), s[i].toNat = 48 + u / 10 ^ (s.size - 1 - i) % 10) := by subst hs; exact num_byte u
  have HU : Hid (u < 10 ^ s.size) := by subst hs; rw [num_size]; exact lt_nd u
  clear hs
  go_enter Tryd.func30, Tryd.ntmps30
  go_wp2_with (at_make; refine wpList_make_own _ rfl _ _ 40 rfl 0 51 i0 (.int .u64 0) 1 Tryd.underlying40 hi hz0 hz1 _ _ _ (s.size / 9 + 1) rfl rfl ?e1 ?e3 ?e4 (Nat.zero_le _) ?_)
  case e1 => omega
  case e3 => rw [hz2]; omega
  case e4 => unfold maxLen; omega
  intro w1 hown hgrow
  have hb1 : Below w.heap.size w w1 := (Below.refl _ w).grown hgrow (Nat.le_refl _) (fun k hk => by cases hk)
  have hz : Rw w1 w.heap.size (s.size / 9 + 1) [] := hown
  have hs1 := hgrow.size
  clear hown hgrow
  go_wp2
  go_loopw [3, 4] (fun v e wr => ∃ (k : Nat) (x : Int) (lz : List Nat), v = .slice (some ⟨w.heap.size, 0, none⟩) k (s.size / 9 + 1) ∧ e = .int .i64 x ∧ x + 9 * (k : Int) = (s.size : Int) ∧ -9 < x ∧ Hid (lz.length = k) ∧ Hid (Rw wr w.heap.size (s.size / 9 + 1) lz) ∧ Hid (lo lz) ∧ Hid (val lz = u % bp k) ∧ Below w.heap.size w wr) (fun _ e _ => (intOf e).toNat)
  case atStart => exact ⟨0, s.size, [], rfl, rfl, by omega, by omega, rfl, hz, lo_nil, by show _ = _; rw [bp_zero, Nat.mod_one]; rfl, hb1⟩
  case round =>
    clear hz hb1 hs1
    obtain ⟨k, x, lz, rfl, rfl, hxk, hx9, HLZ, HZ, HLO, HV, hb⟩ := hrel
    by_cases hx0 : 0 < x
    · obtain ⟨E, rfl⟩ : ∃ E : Nat, x = (E : Int) := ⟨x.toNat, by omega⟩
      have HE := Lib.hid (show E + 9 * k = s.size by omega)
      have hES : E ≤ s.size := by omega
      have hE0 : 0 < E := by omega
      have hk9 : k + 1 ≤ s.size / 9 + 1 := by omega
      clear hx9 hxk hx0
      obtain ⟨a, ha⟩ : ∃ a, a = E - 9 := ⟨_, rfl⟩
      have HA := Lib.hid ha
      have haE : a ≤ E := by omega
      clear ha
      go_wp2
      all_goals
        go_loop [5, 6] (fun g i => ∃ j gr : Nat, g = .int .u64 gr ∧ i = .int .i64 j ∧ a ≤ j ∧ j ≤ E ∧ gr < 1000000000 ∧ Hid (gr = u / 10 ^ (s.size - j) % 10 ^ (j - a))) (fun _ i => E - (intOf i).toNat)
        case atStart =>
          have ha := HA.out
          exact ⟨a, 0, rfl, congrArg (Value.int .i64) (by omega), Nat.le_refl _, haE, by omega, by show _ = _; rw [Nat.sub_self, Nat.pow_zero, Nat.mod_one]⟩
        case round =>
          obtain ⟨j, gr, rfl, rfl, haj, hjE, hgr, HG⟩ := hrel
          by_cases hlt : j < E
          · have hjs : j < s.size := by omega
            have hsi := HB.out j hjs
            have HST := Lib.hid (grp_step u s.size j a hjs haj)
            have h9 : Hid (j + 1 - a ≤ 9) := by have ha := HA.out; show _ ≤ _; omega
            have hd9 : u / 10 ^ (s.size - 1 - j) % 10 < 10 := Nat.mod_lt _ (by omega)
            generalize u / 10 ^ (s.size - 1 - j) % 10 = d at *
            have HG' : Hid (gr * 10 + d = u / 10 ^ (s.size - (j + 1)) % 10 ^ (j + 1 - a)) := by show _ = _; rw [HST.out, ← HG.out]
            have hg9 : gr * 10 + d < 1000000000 := by rw [HG'.out]; exact grp_lt _ _ _ h9.out
            clear HST HG
            go_wp2
            go_round
            case rel => exact ⟨j + 1, gr * 10 + d, by go_num, by go_num, by omega, by omega, hg9, HG'⟩
            case measure => simp [intOf]; omega
          · have hjE' : j = E := by omega
            subst hjE'
            have HV' : Hid (val (lz ++ [gr]) = u % bp (k + 1)) := by
              refine grp_end u k j lz gr HLZ.out HV.out ?_ ?_
              · have h := HU.out; rw [← HE.out, Nat.add_comm] at h; exact h
              · have h := HG.out
                rw [← HA.out, h, show s.size - j = 9 * k by have := HE.out; omega]
            have hsz := hb.size
            have HOW := Lib.hid ((HZ.out.alloc (.cells #[.int .u64 (gr : Int)] 51)).own HLZ.out)
            go_wp2_with (at_builtin; refine wpList_append_own_spare _ rfl _ _ 40 rfl 0 51 i0 1 Tryd.underlying40 hi hz1 w.heap.size k (s.size / 9 + 1) _ rfl HOW.out ⟨wr.heap.size, 0, none⟩ 1 1 [.int .u64 (gr : Int)] rfl rfl (one_new wr gr) (one_cell gr) hk9 ?_)
            intro w2 hown2 hgrow2
            have hz2 := Rw.of_own HLZ.out hown2
            have hb2 := (hb.alloc hsz (.cells #[.int .u64 (gr : Int)] 51)).grown hgrow2 (by simp; omega) (fun k hk => by cases hk; exact Nat.le_refl _)
            clear hown2 hgrow2 HOW
            have HZ2 := Lib.hid hz2
            have HB2 := Lib.hid hb2
            clear hz2 hb2 hb
            have HL2 : Hid (lo (lz ++ [gr])) := lo_append.2 ⟨HLO.out, lo_cons.2 ⟨hgr, lo_nil⟩⟩
            have HN2 : Hid ((lz ++ [gr]).length = k + 1) := by show _ = _; rw [List.length_append, HLZ.out]; rfl
            go_wp2
            go_roundw
            case rel =>
              have hE := HE.out
              exact ⟨k + 1, (j : Int) - 9, lz ++ [gr], rfl, rfl, by omega, by omega, HN2, HZ2, HL2, HV', HB2.out⟩
            case measure => simp [intOf]; omega
    · have HS : Hid (val lz = u) := by show _ = _; rw [HV.out]; exact grp_all u k s.size HU.out (by omega)
      have hkb : k ≤ 1000000000 := by omega
      have HBB := Lib.hid hb
      clear HV hb
      go_wp2_with (go_at_call 46; refine (trim_to w.heap.size (s.size / 9 + 1) k u lz HLZ.out HLO.out HS.out _ HZ.out hkb).mono ?_; rintro e w' ⟨rfl, rfl, hr⟩)
      go_ret
      exact ⟨_, _, rfl, hr, Nat.le_refl _, HBB.out⟩

end Go.Proofs.YtgpjfgakhncdnaaDoor
