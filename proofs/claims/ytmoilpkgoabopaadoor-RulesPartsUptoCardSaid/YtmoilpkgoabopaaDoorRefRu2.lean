/-
  DERIVED. The walk of lorryref12's faults.
-/
import Derived.Test.YtmoilpkgoabopaaDoorRefRu1
namespace Go.Proofs.YtmoilpkgoabopaaDoor.T
open Go.RowKit
set_option maxRecDepth 8000

/-! ### the faults of pairs -/
def badP (n : Int) (p : Int × Int) : Bool := decide (p.1 < 0) || decide (n ≤ p.1) || decide (p.2 < 0) || decide (n ≤ p.2) || p.1 == p.2
def eqP (turned : Bool) (q p : Int × Int) : Bool := (q.1 == p.1 && q.2 == p.2) || (turned && (q.1 == p.2 && q.2 == p.1))
def twiceP (turned : Bool) (l : List (Int × Int)) (i k : Nat) : Bool := (l.take k).any fun q => eqP turned q (l.getD i (0, 0))
def pairE (n : Int) (turned : Bool) (l : List (Int × Int)) (i : Nat) : List Int := if badP n (l.getD i (0, 0)) then [2] else if twiceP turned l i i then [6] else []
def atW (word : ByteArray) (i : Nat) : ByteArray := word ++ ⟨#[32]⟩ ++ dec i
def pfF (n : Int) (l : List (Int × Int)) (word : ByteArray) (turned : Bool) : Nat → List (Int × ByteArray)
  | 0 => if 16 < l.length then [(4, word)] else []
  | k + 1 => pfF n l word turned k ++ (pairE n turned l k).map fun e => (e, atW word k)
def pairF (n : Int) (l : List (Int × Int)) (word : ByteArray) (turned : Bool) : List (Int × ByteArray) := pfF n l word turned l.length
theorem pfF_len (n : Int) (l : List (Int × Int)) (word : ByteArray) (turned : Bool) : ∀ k, (pfF n l word turned k).length ≤ k + 1
  | 0 => by unfold pfF; split <;> simp
  | k + 1 => by
    unfold pfF
    rw [List.length_append, List.length_map]
    have h1 := pfF_len n l word turned k
    have h2 : (pairE n turned l k).length ≤ 1 := by
      unfold pairE
      split
      · simp
      · split <;> simp
    omega
theorem twice_step {turned : Bool} {l : List (Int × Int)} {i k : Nat} (h : k < l.length) : twiceP turned l i (k + 1) = (twiceP turned l i k || eqP turned (l.getD k (0, 0)) (l.getD i (0, 0))) := by
  unfold twiceP
  rw [take_more (d := (0, 0)) h, List.any_append]
  simp
theorem ps_at {w : World} {oa : Option Addr} {c : Nat} {l : List (Int × Int)} (h : Ps w (.slice oa l.length c) l) {k : Nat} (hk : k < l.length) :
    ∃ b o, oa = some ⟨b, o, none⟩ ∧ b < w.heap.size ∧ w.cell? ⟨b, o + k * 2, none⟩ = some (.int .i64 (l.getD k (0, 0)).1) ∧ w.cell? ⟨b, o + k * 2 + 1, none⟩ = some (.int .i64 (l.getD k (0, 0)).2) := by
  obtain ⟨oa', c', hv, h⟩ := h
  simp only [Value.slice.injEq] at hv
  obtain ⟨rfl, -, rfl⟩ := hv
  obtain ⟨b, o, ha, hl, h0, h1⟩ := h k hk
  exact ⟨b, o, ha, hl, h0, h1⟩
theorem bytes_size (a b : ByteArray) : (a ++ b).size = a.size + b.size := by simp

set_option maxHeartbeats 6400000 in
theorem faults12_n (n : Int) (v : Value) (l : List (Int × Int)) (word : ByteArray) (turned : Bool) (hl : l.length ≤ 2000000) (hw : word.size ≤ 100) (w : World) (hv : Ps w v l) :
    Calls Tryd.prog 27 #[.int .i64 n, v, .string word, .bool turned] w (ChkP (pairF n l word turned) w) := by
  have HV := Lib.hid hv
  obtain ⟨oa, c, rfl, -⟩ := hv
  have HE : Hid (pfF n l word turned l.length = pairF n l word turned) := rfl
  have H0 : Hid (pfF n l word turned 0 = if 16 < l.length then [(4, word)] else []) := rfl
  have HS : Hid (∀ k, pfF n l word turned (k + 1) = pfF n l word turned k ++ (pairE n turned l k).map fun e => (e, atW word k)) := fun _ => rfl
  have HPE : Hid (∀ k, pairE n turned l k = if badP n (l.getD k (0, 0)) then [2] else if twiceP turned l k k then [6] else []) := fun _ => rfl
  have HT := Lib.hid (fun i k (hk : k < l.length) => twice_step (turned := turned) (i := i) hk)
  have HT0 : Hid (∀ i, twiceP turned l i 0 = false) := fun _ => rfl
  have HL := Lib.hid (pfF_len n l word turned)
  generalize pairF n l word turned = r at *
  generalize hn : l.length = m at *
  have HM := Lib.hid hn
  clear hn
  go_enter Tryd.func27, Tryd.ntmps27
  go_upto_if 18 with fail
  go_cut [9] from 9 to 23 (fun v wx => Hid (Gl w.heap.size wx v (pfF n l word turned 0)) ∧ Hid (Below w.heap.size w wx))
  case first =>
    by_cases hb : 16 < m
    · have hbI : (16 : Int) < (m : Int) := by omega
      have HF : Hid (pfF n l word turned 0 = [] ++ [(4, word)]) := by show _ = _; rw [H0.out, if_pos hb]; rfl
      clear hb
      go_wp2_with (at_builtin; refine wpList_append_run rfl _ _ 24 rfl rfl rfl (ap_f1 _ 4 word (Gl.nil _ w) (Nat.le_refl _) (by simp)) ?_)
      intro v3 w3 hg3 hb3
      go_wp2_with fail
      go_meet
      case rel => exact ⟨HF.out ▸ hg3, hb3⟩
    · have hbI : ¬ (16 : Int) < (m : Int) := by omega
      have HF : Hid (pfF n l word turned 0 = []) := by show _ = _; rw [H0.out, if_neg hb]
      clear hb
      go_wp2_with fail
      go_meet
      case rel => exact ⟨HF.out ▸ Gl.nil _ _, Below.refl _ _⟩
  obtain ⟨HG, HB⟩ := hcut
  go_wp2_with fail
  go_loopg [9, 10] m (fun g v j wr => ∃ k : Nat, k ≤ m ∧ j = .int .i64 k ∧ m - k ≤ g ∧ Hid (Gl w.heap.size wr v (pfF n l word turned k)) ∧ Hid (Below w.heap.size w wr))
  case atStart => exact ⟨0, Nat.zero_le _, rfl, Nat.le_refl _, HG, HB⟩
  case round =>
    clear HG HB H0
    obtain ⟨k, hkm, rfl, hg, HG, HB⟩ := hrel
    by_cases hlt : k < m
    · obtain ⟨b, o, rfl, hab, x0, x1⟩ := ps_at (by have := HV.out; rw [← HM.out] at this; exact this) (show k < l.length by rw [HM.out]; exact hlt)
      have y0 := (HB.out.cell (p := ⟨b, _, none⟩) hab).trans x0
      have y1 := (HB.out.cell (p := ⟨b, _, none⟩) hab).trans x1
      have hkI : (k : Int) < (m : Int) := by omega
      have hk9 : k ≤ 1000000000 := by omega
      have HSk := Lib.hid (HS.out k)
      have HPk := Lib.hid (HPE.out k)
      have KD := Lib.hid (fun w => decimal12_n k hk9 w)
      have hds := dec_size hk9
      obtain ⟨p, hp⟩ : ∃ p, l.getD k (0, 0) = p := ⟨_, rfl⟩
      rw [hp] at y0 y1 HPk
      have HPp := Lib.hid hp
      have HAt : Hid (atW word k = word ++ ⟨#[32]⟩ ++ dec k) := rfl
      generalize atW word k = at' at *
      generalize dec k = dk at *
      clear x0 x1 hp
      go_wp2_with fail
      refine (KD.out _).mono ?_
      rintro e w1 ⟨rfl, b1⟩
      have HG1 := Lib.hid (HG.out.frame b1)
      have HB1 := Lib.hid (over HB.out b1)
      have z0 := (HB1.out.cell (p := ⟨b, _, none⟩) hab).trans ((HB.out.cell (p := ⟨b, _, none⟩) hab).symm.trans y0)
      clear b1 HG HB KD y0 y1
      go_upto_region 10 with fail
      clear z0
      go_cut [65] from 45 to 65 (fun t wx => t = .bool (badP n p) ∧ w1 = wx)
      case first =>
        have HBd : Hid (badP n p = (decide (p.1 < 0) || decide (n ≤ p.1) || decide (p.2 < 0) || decide (n ≤ p.2) || p.1 == p.2)) := rfl
        generalize badP n p = bd at *
        generalize p.1 = x at *
        generalize p.2 = y at *
        by_cases h1 : x < 0
        · have HR : Hid (bd = true) := by show _ = _; rw [HBd.out, decide_eq_true h1]; rfl
          go_wp2_with fail
          go_meet
          case rel => exact ⟨by rw [HR.out], rfl⟩
        by_cases h2 : n ≤ x
        · have HR : Hid (bd = true) := by show _ = _; rw [HBd.out, decide_eq_true h2]; simp
          go_wp2_with fail
          go_meet
          case rel => exact ⟨by rw [HR.out], rfl⟩
        by_cases h3 : y < 0
        · have HR : Hid (bd = true) := by show _ = _; rw [HBd.out, decide_eq_true h3]; simp
          go_wp2_with fail
          go_meet
          case rel => exact ⟨by rw [HR.out], rfl⟩
        by_cases h4 : n ≤ y
        · have HR : Hid (bd = true) := by show _ = _; rw [HBd.out, decide_eq_true h4]; simp
          go_wp2_with fail
          go_meet
          case rel => exact ⟨by rw [HR.out], rfl⟩
        have HR : Hid (bd = (x == y)) := by show _ = _; rw [HBd.out, decide_eq_false h1, decide_eq_false h2, decide_eq_false h3, decide_eq_false h4]; rfl
        go_wp2_with fail
        go_meet
        case rel => exact ⟨by rw [HR.out], rfl⟩
      obtain ⟨rfl, rfl⟩ := hcut
      cases hbd : badP n p
      · rw [hbd] at HPk
        have HPk : Hid (pairE n turned l k = if twiceP turned l k k then [6] else []) := by show _ = _; rw [HPk.out]; simp
        clear hbd
        have HT0k := Lib.hid (HT0.out k)
        have HTk := Lib.hid (fun i (hi : i < m) => HT.out k i hi)
        clear HT0 HT HPE HS
        go_wp2_with fail
        go_loopg [14, 15] k (fun g2 t j wr2 => ∃ i : Nat, i ≤ k ∧ j = .int .i64 i ∧ k - i ≤ g2 ∧ t = .bool (twiceP turned l k i) ∧ w1 = wr2)
        case atStart => exact ⟨0, Nat.zero_le _, rfl, Nat.le_refl _, by rw [HT0k.out], rfl⟩
        case round =>
          obtain ⟨i, hik, rfl, hg2, rfl, rfl⟩ := hrel
          by_cases hi : i < k
          · have hil : i < l.length := by rw [HM.out]; omega
            obtain ⟨b', o', hbo, hab', x0, x1⟩ := ps_at (by have := HV.out; rw [← HM.out] at this; exact this) hil
            simp only [Option.some.injEq, Addr.mk.injEq, and_true] at hbo
            obtain ⟨rfl, rfl⟩ := hbo
            have q0 := (HB1.out.cell (p := ⟨b, _, none⟩) hab).trans x0
            have q1 := (HB1.out.cell (p := ⟨b, _, none⟩) hab).trans x1
            have hiI : (i : Int) < (k : Int) := by omega
            have himI : (i : Int) < (m : Int) := by omega
            have HTi := Lib.hid (HTk.out i (by omega))
            rw [HPp.out] at HTi
            clear x0 x1
            generalize l.getD i (0, 0) = q at *
            generalize twiceP turned l k i = tw at *
            have HEq : Hid (eqP turned q p = ((q.1 == p.1 && q.2 == p.2) || (turned && (q.1 == p.2 && q.2 == p.1)))) := rfl
            generalize eqP turned q p = eq at *
            generalize q.1 = x at *
            generalize q.2 = y at *
            generalize p.1 = x' at *
            generalize p.2 = y' at *
            cases tw
            · by_cases h1 : x = x'
              · by_cases h2 : y = y'
                · have HR : Hid (eq = true) := by show _ = _; rw [HEq.out, h1, h2]; simp
                  subst h1 h2
                  go_wp2_with fail
                  go_roundg (k - (i + 1))
                  case measure => omega
                  case rel => exact ⟨i + 1, by omega, by go_num, by omega, by rw [HTi.out, HR.out]; rfl, rfl⟩
                · cases turned
                  · have HR : Hid (eq = false) := by show _ = _; rw [HEq.out, ne_eqI h2]; simp
                    have h2' := ne_eqI h2
                    subst h1
                    go_wp2_with fail
                    go_roundg (k - (i + 1))
                    case measure => omega
                    case rel => exact ⟨i + 1, by omega, by go_num, by omega, by rw [HTi.out, HR.out]; rfl, rfl⟩
                  · have HR : Hid (eq = (x == y' && y == x')) := by show _ = _; rw [HEq.out, ne_eqI h2]; simp
                    have h2' := ne_eqI h2
                    subst h1
                    by_cases h3 : x = y'
                    · subst h3
                      have HR2 : Hid (eq = false) := by show _ = _; rw [HR.out, ne_eqI h2]; simp
                      go_wp2_with fail
                      go_roundg (k - (i + 1))
                      case measure => omega
                      case rel => exact ⟨i + 1, by omega, by go_num, by omega, by rw [HTi.out, HR2.out]; rfl, rfl⟩
                    · have h3' := ne_eqI h3
                      have HR2 : Hid (eq = false) := by show _ = _; rw [HR.out, h3']; rfl
                      go_wp2_with fail
                      go_roundg (k - (i + 1))
                      case measure => omega
                      case rel => exact ⟨i + 1, by omega, by go_num, by omega, by rw [HTi.out, HR2.out]; rfl, rfl⟩
              · have h1' := ne_eqI h1
                cases turned
                · have HR : Hid (eq = false) := by show _ = _; rw [HEq.out, h1']; simp
                  go_wp2_with fail
                  go_roundg (k - (i + 1))
                  case measure => omega
                  case rel => exact ⟨i + 1, by omega, by go_num, by omega, by rw [HTi.out, HR.out]; rfl, rfl⟩
                · have HR : Hid (eq = (x == y' && y == x')) := by show _ = _; rw [HEq.out, h1']; simp
                  by_cases h3 : x = y'
                  · subst h3
                    by_cases h4 : y = x'
                    · subst h4
                      have HR2 : Hid (eq = true) := by show _ = _; rw [HR.out]; simp
                      go_wp2_with fail
                      go_roundg (k - (i + 1))
                      case measure => omega
                      case rel => exact ⟨i + 1, by omega, by go_num, by omega, by rw [HTi.out, HR2.out]; rfl, rfl⟩
                    · have h4' := ne_eqI h4
                      have HR2 : Hid (eq = false) := by show _ = _; rw [HR.out, h4']; simp
                      go_wp2_with fail
                      go_roundg (k - (i + 1))
                      case measure => omega
                      case rel => exact ⟨i + 1, by omega, by go_num, by omega, by rw [HTi.out, HR2.out]; rfl, rfl⟩
                  · have h3' := ne_eqI h3
                    have HR2 : Hid (eq = false) := by show _ = _; rw [HR.out, h3']; rfl
                    go_wp2_with fail
                    go_roundg (k - (i + 1))
                    case measure => omega
                    case rel => exact ⟨i + 1, by omega, by go_num, by omega, by rw [HTi.out, HR2.out]; rfl, rfl⟩
            · go_wp2_with fail
              go_roundg (k - (i + 1))
              case measure => omega
              case rel => exact ⟨i + 1, by omega, by go_num, by omega, by rw [HTi.out]; simp, rfl⟩
          · have hii : i = k := by omega
            subst hii
            cases htw : twiceP turned l i i
            · have HX : Hid (pfF n l word turned (i + 1) = pfF n l word turned i) := by show _ = _; rw [HSk.out, HPk.out, htw]; simp
              have HG3 : Hid (Gl w.heap.size w1 u9 (pfF n l word turned (i + 1))) := by show Gl _ _ _ _; rw [HX.out]; exact HG1.out
              clear htw HPk HSk HX
              go_wp2_with fail
              go_roundg (m - (i + 1))
              case measure => omega
              case rel => exact ⟨i + 1, by omega, by go_num, by omega, HG3, HB1⟩
            · have HX : Hid (pfF n l word turned (i + 1) = pfF n l word turned i ++ [(6, at')]) := by show _ = _; rw [HSk.out, HPk.out, htw]; rfl
              have hll := HL.out i
              have hsz := HB1.out.size
              clear htw HPk HSk
              go_wp2_with (at_builtin; refine wpList_append_run rfl _ _ 24 rfl rfl rfl (ap_f1 _ 6 (word ++ ⟨#[32]⟩ ++ dk) HG1.out hsz (by omega)) ?_)
              intro v3 w3 hg3 hb3
              have HG3 : Hid (Gl w.heap.size w3 v3 (pfF n l word turned (i + 1))) := by show Gl _ _ _ _; rw [HX.out, HAt.out]; exact hg3
              have HB3 := Lib.hid (HB1.out.trans hb3)
              clear hg3 hb3
              go_wp2_with fail
              go_roundg (m - (i + 1))
              case measure => omega
              case rel => exact ⟨i + 1, by omega, by go_num, by omega, HG3, HB3⟩
      · rw [hbd] at HPk
        have HX : Hid (pfF n l word turned (k + 1) = pfF n l word turned k ++ [(2, at')]) := by show _ = _; rw [HSk.out, HPk.out]; rfl
        have hll := HL.out k
        have hsz := HB1.out.size
        clear hbd HPk HSk
        go_wp2_with (at_builtin; refine wpList_append_run rfl _ _ 24 rfl rfl rfl (ap_f1 _ 2 (word ++ ⟨#[32]⟩ ++ dk) HG1.out hsz (by omega)) ?_)
        intro v3 w3 hg3 hb3
        have HG3 : Hid (Gl w.heap.size w3 v3 (pfF n l word turned (k + 1))) := by show Gl _ _ _ _; rw [HX.out, HAt.out]; exact hg3
        have HB3 := Lib.hid (HB1.out.trans hb3)
        clear hg3 hb3
        go_wp2_with fail
        go_roundg (m - (k + 1))
        case measure => omega
        case rel => exact ⟨k + 1, by omega, by go_num, by omega, HG3, HB3⟩
    · have hkk : k = m := by omega
      subst hkk
      have HR := Lib.hid HE.out
      go_wp2_with fail
      go_ret
      exact chkP (HR.out ▸ HG.out) HB.out (Nat.le_refl _)

end Go.Proofs.YtmoilpkgoabopaaDoor.T

