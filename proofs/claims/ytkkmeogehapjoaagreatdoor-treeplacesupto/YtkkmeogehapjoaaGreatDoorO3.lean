/- How many nodes a tree of a bounded bulk has. -/
import Derived.Test.YtkkmeogehapjoaaGreatDoorO2
namespace Go.Proofs.YtkkmeogehapjoaaGreatDoor
open Go.ChangeShapes Go.WideShapes Go.ChangeAt Go.RowKit Go.Deep Go.Joins Go.ChangeMaps
set_option maxRecDepth 100000 in
theorem nodes_len {H : Type} {enc : TypeId × Value → H} {W : World} {base : Nat} {spare : Nat → Bool} {held : Bool} {fuel : Nat} {ao : Option Addr} {n c : Nat} {x : DataW H × List MemPlace} (h : DataW.trod enc Tryz.prog W base spare held fuel 22 [.slice ao n c] = some x) : n ≤ Rows.uptoBulk x.1 := by
  rcases open_slice Tryz.underlying22 h with ⟨e, _⟩ | ⟨a, len, cap, m, n', D, Pl, e, _, hlc, hcm, hm, hx, hel⟩
  · simp at e
    omega
  · simp at e
    obtain ⟨_, rfl, _⟩ := e
    rw [hx]
    simp only [Rows.uptoBulk]
    have := bulk_len ((List.range n).map D)
    simp at this ⊢
    omega
set_option maxRecDepth 100000 in
theorem tree_len {H : Type} {enc : TypeId × Value → H} {W : World} {base : Nat} {spare : Nat → Bool} {held : Bool} {ao : Option Addr} {n c : Nat} {d : DataW H} {ps : List MemPlace} (h : DataW.Trod enc Tryz.prog W base spare held 24 (.agg #[.slice ao n c]) d ps) : n ≤ Rows.uptoBulk d := by
  obtain ⟨fuel, hf⟩ := h
  have hf' : DataW.trod enc Tryz.prog W base spare held fuel 24 [.slice ao n c] = some (d, ps) := hf
  obtain ⟨xs, m, _, hx, hl, hlen, hg⟩ := DataW.trod_struct Tryz.underlying24 hf'
  match xs, hlen with
  | [y0], _ =>
    have g0 := hg 0 _ rfl
    simp [cells22] at g0
    have t := nodes_len g0
    rw [show d = _ from congrArg Prod.fst hx]
    simp only [List.map, Rows.uptoBulk, Rows.uptoBulkAll]
    omega
end Go.Proofs.YtkkmeogehapjoaaGreatDoor
