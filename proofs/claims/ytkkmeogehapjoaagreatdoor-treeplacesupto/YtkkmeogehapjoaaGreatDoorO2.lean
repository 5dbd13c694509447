/- Trees of a bounded bulk, as they come in. -/
import Derived.Test.YtkkmeogehapjoaaGreatDoorO1
namespace Go.Proofs.YtkkmeogehapjoaaGreatDoor
open Go.RowKit Go.Shelf
theorem nda_of {W : World} {ao : Option Addr} {c : Nat} {l : List Nd} (h : NdS W ao c l) (hR : ∀ y ∈ l, okR y) (hb : ∀ y ∈ l, y.nm.size + y.ks.length ≤ 1048576) : NdA W ao c l :=
  ⟨h.1, h.2.1, fun x hx => ⟨by have := hb x hx; omega, (hR x hx).v0, (hR x hx).v1, h.2.2.1 x hx⟩, h.2.2.2⟩
/-- A tree of no nodes. -/
def noneT : Value := .agg #[.slice none 0 0]
end Go.Proofs.YtkkmeogehapjoaaGreatDoor
