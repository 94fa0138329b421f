/-
  DERIVED. NetOwn: a part of the base of layer 13 (made by pack.py).
-/
import Derived.Maps.AppendAt
import Derived.Deep.DeepCutAuto
import Derived.Deep.Cut
import Derived.Deep.CutRange
import Derived.Laws.AppendOwnNone
import Derived.Test.YtomebalolmabnaaGreatDoorShelf
import Derived.Test.YtomebalolmabnaaGreatDoorHA
import Derived.Test.YtomebalolmabnaaGreatDoorHB
/-! Slices of arcs that a call makes itself. -/
namespace Go.Proofs.YtomebalolmabnaaGreatDoor.T
open Go.RowKit
set_option maxRecDepth 8000

abbrev ArcV := ArcT × Value × Value
section
variable {B : Nat} {w w' : World} {v : Value} {xs : List ArcV}
def Bes (u : Value) (row : Option Nat) : Prop := ∀ b o k c, u = .slice (some ⟨b, o, none⟩) k c → 0 < k → some b ≠ row
theorem Ps.grown {u : Value} {l : List (Int × Int)} {row : Option Nat} (h : Ps w u l) (hg : w.grownBy w' row) (hb : Bes u row) : Ps w' u l := by
 obtain ⟨oa, c, hv, h⟩ := h
 refine ⟨oa, c, hv, fun i hi => ?_⟩
 obtain ⟨b, o, ha, hl, h0, h1⟩ := h i hi
 have hne := hb b o l.length c (by rw [hv, ha]) (by omega)
 exact ⟨b, o, ha, Nat.lt_of_lt_of_le hl hg.size, hg.cell (a := ⟨b, _, none⟩) h0 hne, hg.cell (a := ⟨b, _, none⟩) h1 hne⟩
end
end Go.Proofs.YtomebalolmabnaaGreatDoor.T




