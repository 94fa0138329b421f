/-
  DERIVED. What the laws of layer 12 need of the landed rules: Check, Closure, Needs, Allowed, Never.
-/
import Derived.Test.YtmoilpkgoabopaaDoorRuTop3
import Derived.Test.YtmoilpkgoabopaaDoorRuTop5
import Derived.Test.YtmoilpkgoabopaaDoorRuTop8
namespace Go.Proofs.YtmoilpkgoabopaaDoor.T
open Go.RowKit
set_option maxRecDepth 8000

/-- what the walks ask of the world: the library's tables that sets and strconv read -/
def Env (w : World) : Prop := Tab w ∧ S.Tab w
theorem Env.over {w W : World} (h : Env w) (hb : Below w.heap.size w W) : Env W := ⟨h.1.over hb, h.2.over hb⟩
theorem rulesCheck_n (n : Int) (v u : Value) (ap be : List (Int × Int)) (_ : -9223372036854775808 ≤ n ∧ n ≤ 9223372036854775807) (ha : ap.length ≤ 1000) (hb : be.length ≤ 1000) (hia : ∀ p ∈ ap, In64 p) (hib : ∀ p ∈ be, In64 p) (w : World) (hE : Env w) (hv : Ps w v ap) (hu : Ps w u be) :
    Calls Tryd.prog 10 #[.int .i64 n, v, u] w (ChkP (checkF n ap be) w) := rulesCheck_t n v u ap be ha hb hia hib w hE.1 hv hu
theorem ex64 : (∀ p ∈ [((0 : Int), (1 : Int)), (1, 0)], In64 p) ∧ ∀ p ∈ [((0 : Int), (3 : Int))], In64 p := by
  constructor
  · intro p hp
    simp only [List.mem_cons, List.not_mem_nil, or_false] at hp
    rcases hp with rfl | rfl <;> (unfold In64 I64; omega)
  · intro p hp
    simp only [List.mem_cons, List.not_mem_nil, or_false] at hp
    subst hp
    unfold In64 I64; omega
theorem clo64 {n : Nat} {l : List (Int × Int)} (hr : U.Rt n l) (hn : n ≤ 10) : ∀ p ∈ U.cloL n l, In64 p := by
  intro p hp
  obtain ⟨a, b, rfl, h⟩ := (U.mem_clo hr p).1 hp
  have := h.lt hr
  unfold In64 I64
  simp only
  omega
theorem rulesClosure_n (n : Nat) (v : Value) (l : List (Int × Int)) (hn : n ≤ 10) (hr : U.Rt n l) (hl : l.length ≤ 16) (w : World) (_ : Env w) (hv : Ps w v l) :
    Calls Tryd.prog 14 #[.int .i64 n, v] w (PrsP (U.cloL n l) w) := closure_t n v l hn hr hl w hv
theorem rulesNeeds_n (o0 o1 o2 o3 o4 o5 : Option Addr) (n0 n1 n2 c0 c1 c2 c3 c4 c5 : Nat) (l : List OrT) (ap be : List (Int × Int)) (q : Int) (_ : -9223372036854775808 ≤ q ∧ q ≤ 9223372036854775807) (hn : l.length ≤ 10) (_ : U.Rt l.length ap) (hr : U.Rt l.length be) (_ : ap.length ≤ 16) (hl : be.length ≤ 16) (w : World) (_ : Env w) (_ : Os w (.slice o3 l.length c3) l) (_ : Ps w (.slice o4 ap.length c4) ap) (hu : Ps w (.slice o5 be.length c5) be) :
    Calls Tryd.prog 16 #[.agg #[.slice o0 n0 c0, .slice o1 n1 c1, .slice o2 n2 c2, .slice o3 l.length c3, .slice o4 ap.length c4, .slice o5 be.length c5], .int .i64 q] w fun e w' => e = .returned (.int .i64 (U.needsI l.length be q)) ∧ Below w.heap.size w w' :=
  needsT_n o0 o1 o2 o3 o4 o5 n0 n1 n2 l.length ap.length c0 c1 c2 c3 c4 c5 be q hn hr (by omega) w hu
theorem rulesAllowed_n (o0 o1 o2 o3 o4 o5 : Option Addr) (n0 n1 n2 c0 c1 c2 c3 c4 c5 : Nat) (l : List OrT) (ap be : List (Int × Int)) (q : Int) (hq : -9223372036854775808 ≤ q ∧ q ≤ 9223372036854775807) (hn : l.length ≤ 10) (hra : U.Rt l.length ap) (hr : U.Rt l.length be) (hla : ap.length ≤ 16) (hl : be.length ≤ 16) (w : World) (_ : Env w) (ho : Os w (.slice o3 l.length c3) l) (hv : Ps w (.slice o4 ap.length c4) ap) (hu : Ps w (.slice o5 be.length c5) be) :
    Calls Tryd.prog 18 #[.agg #[.slice o0 n0 c0, .slice o1 n1 c1, .slice o2 n2 c2, .slice o3 l.length c3, .slice o4 ap.length c4, .slice o5 be.length c5], .int .i64 q] w fun e w' => e = .returned (.int .i64 (U.allowE l.length (offF l) ap be q)) ∧ Below w.heap.size w w' :=
  allowedT_n o0 o1 o2 o3 o4 o5 n0 n1 n2 l.length c0 c1 c2 c3 c4 c5 (offF l) ap be q hq hn hra hr (by omega) (by omega) w ho.ofs hv hu
theorem rulesNever_n (o0 o1 o2 o3 o4 o5 : Option Addr) (n0 n1 n2 c0 c1 c2 c3 c4 c5 : Nat) (l : List OrT) (ap be : List (Int × Int)) (hn : l.length ≤ 10) (hra : U.Rt l.length ap) (hr : U.Rt l.length be) (hla : ap.length ≤ 16) (hl : be.length ≤ 16) (w : World) (hE : Env w) (ho : Os w (.slice o3 l.length c3) l) (hv : Ps w (.slice o4 ap.length c4) ap) (hu : Ps w (.slice o5 be.length c5) be) :
    Calls Tryd.prog 20 #[.agg #[.slice o0 n0 c0, .slice o1 n1 c1, .slice o2 n2 c2, .slice o3 l.length c3, .slice o4 ap.length c4, .slice o5 be.length c5]] w fun e w' => e = .returned (.int .i64 (U.neverN l.length (offF l) ap be : Nat)) ∧ Below w.heap.size w w' :=
  neverT_n o0 o1 o2 o3 o4 o5 n0 n1 n2 l.length c0 c1 c2 c3 c4 c5 (offF l) ap be hn hra hr (by omega) (by omega) w hE.2 ho.ofs hv hu

end Go.Proofs.YtmoilpkgoabopaaDoor.T

