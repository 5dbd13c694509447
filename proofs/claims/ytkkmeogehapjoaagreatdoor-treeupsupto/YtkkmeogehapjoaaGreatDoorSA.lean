/- Nodes in memory, of whatever names. -/
import Derived.Test.YtkkmeogehapjoaaGreatDoorTA
namespace Go.Proofs.YtkkmeogehapjoaaGreatDoor
open Go.RowKit Go.Shelf
/-- Nodes in memory, of whatever names. -/
def NdS (w : World) (ao : Option Addr) (c : Nat) (l : List Nd) : Prop := l.length ≤ c ∧ c ≤ 9223372036854775807 ∧ (∀ x ∈ l, IsA w x.ka x.kc x.ks) ∧ (0 < l.length → ∃ g o, ao = some ⟨g, o, none⟩ ∧ ∀ i x, l[i]? = some x → ∀ j y, (ndc x)[j]? = some y → w.cell? ⟨g, o + i * 6 + j, none⟩ = some y)
theorem NdA.s {W : World} {ao : Option Addr} {c : Nat} {l : List Nd} (h : NdA W ao c l) : NdS W ao c l := ⟨h.1, h.2.1, fun x hx => (h.2.2.1 x hx).ks, h.2.2.2⟩
theorem NdS.below {W W' : World} {ao : Option Addr} {c : Nat} {l : List Nd} (h : NdS W ao c l) (hb : Below W.heap.size W W') : NdS W' ao c l := by
  obtain ⟨h1, h2, h3, h4⟩ := h
  refine ⟨h1, h2, fun x hx => (h3 x hx).below hb, fun hl => ?_⟩
  obtain ⟨g, o, e1, e2⟩ := h4 hl
  exact ⟨g, o, e1, fun i x hi j y hy => by
    have t := e2 i x hi j y hy
    rw [(bcell hb).1 g _ (World.block_lt_of_cell? _ _ t)]
    exact t⟩
end Go.Proofs.YtkkmeogehapjoaaGreatDoor
