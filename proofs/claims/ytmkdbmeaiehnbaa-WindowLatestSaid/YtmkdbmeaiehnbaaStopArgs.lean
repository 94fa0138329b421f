/-
  DERIVED. A stop by value, as an argument.
-/
import Derived.Test.YtmkdbmeaiehnbaaWinRow
import Derived.ProofKit
import Derived.OpenShut
import Derived.Lib.SmallJoins
namespace Go.Proofs.Ytmkdbmeaiehnbaa.V
open Go.Joins Go.ChangeShapes Go.WideShapes Go.RowKit Go.Deep
set_option maxRecDepth 8000

section
variable {H : Type} {enc : TypeId × Value → H}
theorem arg_stop {W : World} {base : Nat} {v : Value} {d : DataW H} {q : List MemPlace}
    (hv : Value.okWide Try.prog W .any base 23 v) (h : DataW.Trod enc Try.prog W 0 (fun _ => true) true 23 v d q) :
    ∃ p o c s : Int, v = .agg #[.int .i64 p, .int .i64 o, .int .i64 c, .int .i64 s] ∧ q = [] ∧
      ∀ (W' : World) (b : Nat) (sp : Nat → Bool) (hd : Bool), DataW.Trod enc Try.prog W' b sp hd 23 (.agg #[.int .i64 p, .int .i64 o, .int .i64 c, .int .i64 s]) d [] := by
  have he : Try.prog.underlying 23 = some (.struct #[_, _, _, _]) := Try.underlying23
  obtain ⟨v0, v1, v2, v3, y0, y1, y2, y3, n, rfl, rfl, rfl, h0, h1, h2, h3⟩ := open_agg4 he (by kernel_rfl) (by kernel_rfl) hv h
  obtain ⟨p, e0, f0, g0⟩ := DataW.trod_int Try.underlying3 h0
  obtain ⟨o, e1, f1, g1⟩ := DataW.trod_int Try.underlying3 h1
  obtain ⟨c, e2, f2, g2⟩ := DataW.trod_int Try.underlying3 h2
  obtain ⟨s, e3, f3, g3⟩ := DataW.trod_int Try.underlying3 h3
  simp only [List.cons.injEq, and_true] at e0 e1 e2 e3
  subst e0; subst e1; subst e2; subst e3; subst f0; subst f1; subst f2; subst f3
  refine ⟨p, o, c, s, rfl, rfl, fun W' b sp hd => ?_⟩
  exact shut_agg4 he (by kernel_rfl) (by kernel_rfl) ⟨_, trod_int_mk 0 Try.underlying3 g0⟩ ⟨_, trod_int_mk 0 Try.underlying3 g1⟩ ⟨_, trod_int_mk 0 Try.underlying3 g2⟩ ⟨_, trod_int_mk 0 Try.underlying3 g3⟩
end

end Go.Proofs.Ytmkdbmeaiehnbaa.V
