/-
  DERIVED. Loads in plain lists of numbers: what each function answers.
-/
import Derived.Test.YtalfonpkefhlmaaDoorLRow
namespace Go.Proofs.YtalfonpkefhlmaaDoor.L

def inRange (x : Int) : Bool := decide (0 ≤ x) && decide (x ≤ 1000)
def outRange (x : Int) : Bool := decide (x < 0) || decide (1000 < x)
def negB (x : Int) : Bool := decide (x < 0)
def rightB (l : List Int) (d : Int) : Bool := decide ((l.length : Int) = d) && l.all inRange
def leAll : List Int → List Int → Bool
  | x :: a, y :: b => decide (x ≤ y) && leAll a b
  | _, _ => true
def fitsB (a c : List Int) : Bool := decide (a.length = c.length) && leAll a c
def withinB (m : Int) (l : List Int) : Bool := l.all fun x => decide (-m ≤ x) && decide (x ≤ m)
def allB (m : Int) (ls : List (List Int)) : Bool := decide (ls.length ≤ 20) && ls.all (withinB m)
def zipL (f : Int → Int → Int) (a b : List Int) : List Int := List.zipWith f a b
def combL (f : Int → Int → Int) (a b : List Int) : List Int := if a.length = b.length then zipL f a b else []
def combE (a b : List Int) : Int := if a.length = b.length then 0 else 2
def evenB (ls : List (List Int)) (d : Int) : Bool := (decide (0 ≤ d) && decide (d ≤ 3)) && ls.all fun l => decide ((l.length : Int) = d)
/-- the numbers that the first lists give, dimension by dimension -/
def accL (f : Int → Int → Int) (ls : List (List Int)) (n : Nat) : List Int := ls.foldl (zipL f) (List.replicate n 0)
def gathL (f : Int → Int → Int) (ls : List (List Int)) (d : Int) : List Int := if evenB ls d then accL f ls d.toNat else []
def gathE (ls : List (List Int)) (d : Int) : Int := if evenB ls d then 0 else 2
def quoUp (x y : Int) : Int := (x - 1) / y + 1
def tripsF : Int → List Int → List Int → Int × Int
  | n, x :: a, y :: c => if x ≤ 0 then tripsF n a c else if y = 0 then (0, 24) else tripsF (max n (quoUp x y)) a c
  | n, _, _ => (n, 0)
def tripsR (a c : List Int) : Int × Int := if a.length = c.length ∧ c.any negB = false then tripsF 0 a c else (0, 2)

theorem all_not_any (l : List Int) : (!l.any outRange) = l.all inRange := by
  induction l with
  | nil => rfl
  | cons x l ih =>
    rw [List.any_cons, List.all_cons, ← ih, Bool.not_or]
    congr 1
    unfold outRange inRange
    rw [Bool.eq_iff_iff]; simp

/-! ### lists, one number at a time -/
theorem leAll_step {x y : Int} {a b : List Int} : leAll (x :: a) (y :: b) = (decide (x ≤ y) && leAll a b) := rfl
theorem leAll_refl (a : List Int) : leAll a a = true := by
  induction a with
  | nil => rfl
  | cons x a ih => rw [leAll_step, ih]; simp
theorem leAll_iff (a b : List Int) (h : a.length = b.length) : leAll a b = true ↔ ∀ k, k < a.length → a.getD k 0 ≤ b.getD k 0 := by
  induction a generalizing b with
  | nil => cases b with
    | nil => simp [leAll]
    | cons y b => simp at h
  | cons x a ih => cases b with
    | nil => simp at h
    | cons y b =>
      have h' : a.length = b.length := by simpa using h
      rw [leAll_step, Bool.and_eq_true, decide_eq_true_iff, ih b h']
      constructor
      · rintro ⟨h1, h2⟩ k hk
        cases k with
        | zero => simpa using h1
        | succ k => simpa using h2 k (by simpa using hk)
      · intro h3
        exact ⟨by simpa using h3 0 (by simp), fun k hk => by simpa using h3 (k + 1) (by simp; omega)⟩
theorem fitsB_iff (a c : List Int) : fitsB a c = true ↔ a.length = c.length ∧ ∀ k, k < a.length → a.getD k 0 ≤ c.getD k 0 := by
  unfold fitsB
  rw [Bool.and_eq_true, decide_eq_true_iff]
  exact ⟨fun ⟨h1, h2⟩ => ⟨h1, (leAll_iff a c h1).1 h2⟩, fun ⟨h1, h2⟩ => ⟨h1, (leAll_iff a c h1).2 h2⟩⟩
theorem fitsB_refl (a : List Int) : fitsB a a = true := by unfold fitsB; rw [leAll_refl]; simp

/-- the first k numbers of xs, then those of ys -/
def mix (xs ys : List Int) (k : Nat) : List Int := xs.take k ++ ys.drop k
theorem mix_zero (xs ys : List Int) : mix xs ys 0 = ys := by simp [mix]
theorem mix_all {xs ys : List Int} {k : Nat} (h : xs.length = k) (h2 : ys.length = k) : mix xs ys k = xs := by
  unfold mix
  rw [List.take_of_length_le (by omega), List.drop_of_length_le (by omega), List.append_nil]
theorem mix_len {xs ys : List Int} {k : Nat} (h : xs.length = ys.length) (hk : k ≤ ys.length) : (mix xs ys k).length = ys.length := by
  unfold mix
  rw [List.length_append, List.length_take, List.length_drop]; omega
theorem mix_set {xs ys : List Int} {k : Nat} (h : k < xs.length) (h2 : k < ys.length) : (mix xs ys k).set k (xs.getD k 0) = mix xs ys (k + 1) := by
  unfold mix
  rw [take_more (d := 0) h, drop_more (d := 0) h2, List.set_append_right _ _ (by rw [List.length_take]; omega), List.append_assoc]
  congr 1
  rw [List.length_take, Nat.min_eq_left (by omega), Nat.sub_self]; rfl
theorem mix_getD {xs ys : List Int} {k : Nat} (h : k ≤ xs.length) : (mix xs ys k).getD k 0 = ys.getD k 0 := by
  unfold mix
  rw [List.getD_eq_getElem?_getD, List.getElem?_append_right (by rw [List.length_take]; omega), List.length_take, Nat.min_eq_left h, Nat.sub_self, List.getElem?_drop, Nat.add_zero, List.getD_eq_getElem?_getD]
theorem zip_len (f : Int → Int → Int) {a b : List Int} {n : Nat} (h : a.length = n) (h2 : b.length = n) : (zipL f a b).length = n := by
  unfold zipL; rw [List.length_zipWith]; omega
theorem zip_getD (f : Int → Int → Int) {a b : List Int} {k : Nat} (h : k < a.length) (h2 : k < b.length) : (zipL f a b).getD k 0 = f (a.getD k 0) (b.getD k 0) := by
  unfold zipL
  rw [List.getD_eq_getElem?_getD, List.getElem?_zipWith, List.getElem?_eq_getElem h, List.getElem?_eq_getElem h2, List.getD_eq_getElem?_getD, List.getD_eq_getElem?_getD, List.getElem?_eq_getElem h, List.getElem?_eq_getElem h2]
  rfl
theorem zip_take (f : Int → Int → Int) {a b : List Int} {k : Nat} (h : k < a.length) (h2 : k < b.length) : (zipL f a b).take (k + 1) = (zipL f a b).take k ++ [f (a.getD k 0) (b.getD k 0)] := by
  rw [take_more (d := 0) (by rw [zipL, List.length_zipWith]; omega), zip_getD f h h2]

/-! ### several lists -/
theorem acc_len (f : Int → Int → Int) (n : Nat) : ∀ (ls : List (List Int)) (z : List Int), z.length = n → (∀ l ∈ ls, l.length = n) → (ls.foldl (zipL f) z).length = n
  | [], z, hz, _ => hz
  | l :: ls, z, hz, h => acc_len f n ls _ (zip_len f hz (h l (by simp))) (fun m hm => h m (by simp [hm]))
theorem acc_step (f : Int → Int → Int) (ls : List (List Int)) (n k : Nat) (h : k < ls.length) : accL f (ls.take (k + 1)) n = zipL f (accL f (ls.take k) n) (ls.getD k []) := by
  unfold accL
  rw [take_more (d := []) h, List.foldl_append]; rfl
theorem evenB_iff (ls : List (List Int)) (d : Int) : evenB ls d = true ↔ (0 ≤ d ∧ d ≤ 3) ∧ ∀ l ∈ ls, (l.length : Int) = d := by
  unfold evenB
  rw [Bool.and_eq_true, Bool.and_eq_true, decide_eq_true_iff, decide_eq_true_iff, List.all_eq_true]
  simp only [decide_eq_true_iff]
/-- one dimension's number -/
def colL (f : Int → Int → Int) (ls : List (List Int)) (d : Nat) : Int := ls.foldl (fun n l => f n (l.getD d 0)) 0
theorem col_step (f : Int → Int → Int) (ls : List (List Int)) (d k : Nat) (h : k < ls.length) : colL f (ls.take (k + 1)) d = f (colL f (ls.take k) d) ((ls.getD k []).getD d 0) := by
  unfold colL
  rw [take_more (d := []) h, List.foldl_append]; rfl
theorem acc_col (f : Int → Int → Int) (n d : Nat) (hd : d < n) : ∀ (ls : List (List Int)) (z : List Int), z.length = n → (∀ l ∈ ls, l.length = n) → (ls.foldl (zipL f) z).getD d 0 = ls.foldl (fun n l => f n (l.getD d 0)) (z.getD d 0)
  | [], z, _, _ => rfl
  | l :: ls, z, hz, h => by
    rw [List.foldl_cons, List.foldl_cons, acc_col f n d hd ls _ (zip_len f hz (h l (by simp))) (fun m hm => h m (by simp [hm])), zip_getD f (by omega) (by rw [h l (by simp)]; exact hd)]
theorem acc_getD (f : Int → Int → Int) (n d : Nat) (hd : d < n) (ls : List (List Int)) (h : ∀ l ∈ ls, l.length = n) : (accL f ls n).getD d 0 = colL f ls d := by
  unfold accL colL
  rw [acc_col f n d hd ls _ (by simp) h]
  congr 1
  simp [List.getD_eq_getElem?_getD, hd]
theorem accL_len (f : Int → Int → Int) (n : Nat) (ls : List (List Int)) (h : ∀ l ∈ ls, l.length = n) : (accL f ls n).length = n := acc_len f n ls _ (by simp) h
theorem acc_row (f : Int → Int → Int) (n d : Nat) (hd : d < n) (ls : List (List Int)) (h : ∀ l ∈ ls, l.length = n) : (accL f ls n).take (d + 1) = (accL f ls n).take d ++ [colL f ls d] := by
  rw [take_more (d := 0) (by rw [accL_len f n ls h]; exact hd), acc_getD f n d hd ls h]
theorem col_bound {m : Int} (hm : 0 ≤ m) (f : Int → Int → Int) (hf : ∀ x y, f x y = x + y) (ls : List (List Int)) (d : Nat) (h : ∀ l ∈ ls, withinB m l = true) : ∀ k, k ≤ ls.length → -(k * m) ≤ colL f (ls.take k) d ∧ colL f (ls.take k) d ≤ k * m := by
  intro k
  induction k with
  | zero => intro _; simp [colL]
  | succ k ih =>
    intro hk
    have h1 := ih (by omega)
    rw [col_step f ls d k (by omega), hf]
    have h2 : withinB m (ls.getD k []) = true := h _ (getD_mem (by omega))
    have h3 : -m ≤ (ls.getD k []).getD d 0 ∧ (ls.getD k []).getD d 0 ≤ m := by
      by_cases hd : d < (ls.getD k []).length
      · have := List.all_eq_true.1 h2 _ (getD_mem (d := 0) hd)
        simpa using this
      · rw [List.getD_eq_getElem?_getD, List.getElem?_eq_none (by omega)]; simp; omega
    have e : ((k + 1 : Nat) : Int) * m = k * m + m := by rw [Int.natCast_add, Int.add_mul]; simp
    rw [e]
    omega
theorem within_getD {m : Int} {l : List Int} (h : withinB m l = true) {k : Nat} (hk : k < l.length) : -m ≤ l.getD k 0 ∧ l.getD k 0 ≤ m := by
  have := List.all_eq_true.1 h _ (getD_mem (d := 0) hk)
  simpa using this
theorem allB_iff {m : Int} {ls : List (List Int)} : allB m ls = true ↔ ls.length ≤ 20 ∧ ∀ l ∈ ls, withinB m l = true := by
  unfold allB
  rw [Bool.and_eq_true, decide_eq_true_iff, List.all_eq_true]

end Go.Proofs.YtalfonpkefhlmaaDoor.L

