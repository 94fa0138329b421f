/-
  DERIVED. The walks of word, small and smallDivisor.
-/
import Derived.Test.YtgpjfgakhncdnaaDoorNatGuess
import Derived.Test.YtgpjfgakhncdnaaDoorNatTrim
import Derived.Deep.LoopGhost
namespace Go.Proofs.YtgpjfgakhncdnaaDoor
open Go.RowKit

theorem word_any (g cap n u : Nat) (l : List Nat) (hlo : lo l) (w : World) (h : Rw w g cap l) (hn : l.length = n) (hn2 : n ≤ 2) (hu : val l = u) :
    Calls Tryd.prog 53 #[.slice (some ⟨g, 0, none⟩) n cap] w fun e w' => e = .returned (.int .u64 (u : Int)) ∧ w = w' := by
  have hb : ∀ k, val (l.drop k) < 1000000000000000000 := fun k => by
    have h1 := val_lt (lo_drop hlo k)
    have h2 : bp (l.drop k).length ≤ bp 2 := bp_mono (by rw [List.length_drop]; omega)
    have h3 : bp 2 = 1000000000000000000 := by decide
    omega
  have HB := Lib.hid hb
  have HV : Hid (val (l.drop 0) = u) := hu
  have HL := Lib.hid h
  have HN := Lib.hid hn
  have HLO := Lib.hid hlo
  have HE : Hid (val (l.drop n) = 0) := by show _ = _; rw [List.drop_of_length_le (by omega)]; rfl
  clear hb h hn hlo hu
  go_enter Tryd.func53, Tryd.ntmps53
  go_wp2
  go_loop [3, 4] (fun a i => ∃ k v : Nat, a = .int .u64 v ∧ i = .int .i64 ((k : Int) - 1) ∧ k ≤ n ∧ Hid (val (l.drop k) = v)) (fun _ i => (intOf i + 1).toNat)
  case atStart => exact ⟨n, 0, rfl, rfl, Nat.le_refl _, HE⟩
  case round =>
    clear HE
    obtain ⟨k, v, rfl, rfl, hk, HK⟩ := hrel
    match k, hk, HK with
    | 0, hk, HK =>
      have HU : Hid (v = u) := by show _ = _; rw [← HK.out, HV.out]
      go_wp2
      go_ret
      exact ⟨ret_int (by rw [HU.out]), rfl⟩
    | j + 1, hk, HK =>
      have hc := HL.out.cell j (by rw [HN.out]; omega)
      have hd := val_drop l j (by rw [HN.out]; omega)
      have hbj := HB.out j
      rw [HK.out] at hd
      rw [hd] at hbj
      have HD := Lib.hid hd
      clear hd
      generalize l.getD j 0 = x at *
      have hbj2 : v * 1000000000 + x < 1000000000000000000 := by omega
      go_wp2
      go_round
      case rel => exact ⟨j, v * 1000000000 + x, by go_num, by go_num, by omega, by have := HD.out; show _ = _; omega⟩
      case measure => simp [intOf]

theorem two_new (w : World) (a b : Nat) : Rw (w.alloc (.cells #[.int .u64 (a : Int), .int .u64 (b : Int)] 51)) w.heap.size 2 [a, b] := by
  have := World.ownsRow_lit (base := 0) (size := 1) (e := 51) w #[.int .u64 (a : Int), .int .u64 (b : Int)] 2 (Nat.zero_le _) (by decide) rfl
  exact this
theorem small_any (u : Nat) (hu : u < 1000000000000000000) (w : World) :
    Calls Tryd.prog 51 #[.int .u64 u] w fun e w' => ∃ g cap, e = .returned (.slice (some ⟨g, 0, none⟩) (limbs u).length cap) ∧ Rw w' g cap (limbs u) ∧ w.heap.size ≤ g ∧ Below w.heap.size w w' := by
  have hr := two_new w (u % 1000000000) (u / 1000000000)
  rw [show ((u % 1000000000 : Nat) : Int) = (u : Int) % 1000000000 by omega, show ((u / 1000000000 : Nat) : Int) = (u : Int) / 1000000000 by omega] at hr
  have HR := Lib.hid hr
  have HV : Hid (val [u % 1000000000, u / 1000000000] = u) := by show _ = _; rw [val_cons, val_cons, val_nil]; omega
  have HLO : Hid (lo [u % 1000000000, u / 1000000000]) := lo_cons.2 ⟨by omega, lo_cons.2 ⟨by omega, lo_nil⟩⟩
  clear hr
  go_enter Tryd.func51, Tryd.ntmps51
  go_wp2_with (go_at_call 46; refine (trim_to w.heap.size 2 2 u _ rfl HLO.out HV.out _ HR.out (by omega)).mono ?_; rintro e w' ⟨rfl, rfl, hr'⟩)
  go_ret
  exact ⟨_, _, rfl, hr', Nat.le_refl _, (Below.refl _ _).alloc (Nat.le_refl _) _⟩

/-- what smallDivisor leaves -/
def SdPost (G : Nat) (w : World) (e : Ending) (w' : World) : Prop := ∃ n : Nat, e = .returned (.int .u64 (G : Int)) ∧ w' = w.drewN n
theorem smallDivisor_any (a b G : Nat) (ha : a < 18446744073709551616) (hb : b < 18446744073709551616) (hG : Nat.gcd a b = G) (w : World) :
    Calls Tryd.prog 52 #[.int .u64 a, .int .u64 b] w fun e w' => SdPost G w e w' := by
  have HG := Lib.hid hG
  clear hG
  go_enter Tryd.func52, Tryd.ntmps52
  go_wp2
  go_loopg [0, 1] b (fun k x y wr => ∃ c nd : Nat, x = .int .u64 c ∧ y = .int .u64 k ∧ c < 18446744073709551616 ∧ k < 18446744073709551616 ∧ Hid (Nat.gcd c k = G) ∧ wr = w.drewN nd)
  case atStart => exact ⟨a, 0, rfl, rfl, ha, hb, HG, rfl⟩
  case round =>
    clear HG
    obtain ⟨c, nd, rfl, rfl, hc, hk, HG, rfl⟩ := hrel
    rcases Nat.eq_zero_or_pos gk with h0 | h0
    · subst h0
      have HC : Hid (c = G) := by have := HG.out; rw [Nat.gcd_zero_right] at this; exact this
      go_wp2
      go_ret
      exact ⟨nd, ret_int (by rw [HC.out]), rfl⟩
    · have hkI : (0 : Int) < (gk : Int) := by omega
      have HG2 : Hid (Nat.gcd gk (c % gk) = G) := by show _ = _; rw [Nat.gcd_comm, ← Nat.gcd_rec, Nat.gcd_comm]; exact HG.out
      have hlt := Nat.mod_lt c h0
      have hmI : (c : Int) % (gk : Int) = ((c % gk : Nat) : Int) := rfl
      generalize c % gk = m at *
      have HMI := Lib.hid hmI
      clear hmI
      go_wp2_with fail
      go_quiet (fail)
      go_wp2_with fail
      go_roundg m
      case measure => exact hlt
      case rel => exact ⟨gk, nd + nq, rfl, congrArg (Value.int .u64) HMI.out, by omega, by omega, HG2, World.drewN_drewN _ _ _⟩

end Go.Proofs.YtgpjfgakhncdnaaDoor
