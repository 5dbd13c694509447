/- A tree that grows by moved nodes: what is kept. -/
import Derived.Test.YtkkmeogehapjoaaGreatDoorKK
import Derived.Test.YtkkmeogehapjoaaGreatDoorNE
namespace Go.Proofs.YtkkmeogehapjoaaGreatDoor
open Go.RowKit Go.Shelf
/-- What the loop keeps: the tree's box, and the new tree's box with its own row of nodes. -/
structure PlS (w : World) (T : Value) (Q : List Nd) (v : Value) (wx : World) : Prop where
  bl : Below w.heap.size w wx
  tb : wx.heap[w.heap.size]? = some (.cells #[T] 24 (0, 0))
  ub : wx.heap[w.heap.size + 1]? = some (.cells #[v] 24 (0, 0))
  ow : wx.ownsRow w.heap.size 53 6 v Q.length (Q.flatMap ndc)
theorem PlS.later {w : World} {T v : Value} {Q : List Nd} {wx wy : World} (h : PlS w T Q v wx) (hb : Below wx.heap.size wx wy) : PlS w T Q v wy :=
  ⟨h.bl.trans (hb.mono h.bl.size), by rw [hb.block _ (Array.getElem?_eq_some_iff.1 h.tb).1]; exact h.tb, by rw [hb.block _ (Array.getElem?_eq_some_iff.1 h.ub).1]; exact h.ub, own_keep h.ow (fun g hg => hb.block g (by obtain ⟨_, _, _, h3⟩ := own_block h.ow hg; exact h3))⟩
theorem PlS.nda {w : World} {T v : Value} {d : Int} {l : List Nd} {ao : Option Addr} {c : Nat} {wx : World} (h : PlS w T (l.map (mv d)) v wx) (hl : NdA w ao c l) : ∃ qo qc, v = .slice qo (l.map (mv d)).length qc ∧ NdA wx qo qc (l.map (mv d)) := by
  have hk : ∀ x ∈ l.map (mv d), okN wx x := fun x hx => by
    obtain ⟨y, hy, rfl⟩ := List.mem_map.1 hx
    have t := hl.2.2.1 y hy
    exact ⟨t.nm, t.v0, t.v1, t.ks.below h.bl⟩
  generalize l.map (mv d) = Q at *
  have ho := h.ow
  obtain ⟨h1, ⟨h2, h0⟩ | ⟨g, cap, cur, e1, e2, e3, e4, e5, r⟩⟩ := h.ow
  · exact ⟨none, 0, by rw [h2, h0], by omega, by omega, hk, fun hl => absurd hl (by omega)⟩
  · subst e1
    refine ⟨_, cap, rfl, e4, by unfold maxLen at e5; omega, hk, fun hl => ⟨g, 0, rfl, fun i x hi j y hy => ?_⟩⟩
    have hi' : i < Q.length := (List.getElem?_eq_some_iff.1 hi).1
    have hj : j < 6 := by have t := (List.getElem?_eq_some_iff.1 hy).1; simpa [ndc] using t
    rw [Nat.zero_add, ho.cellAt (i * 6 + j) (by omega)]
    exact flat_at Q i x j y hi hy
theorem PlS.slice {w : World} {T v : Value} {Q : List Nd} {wx : World} (h : PlS w T Q v wx) : ∃ qo qc, v = .slice qo Q.length qc := by
  obtain ⟨h1, ⟨h2, h0⟩ | ⟨g, cap, cur, e1, _⟩⟩ := h.ow
  · exact ⟨none, 0, by rw [h2, h0]⟩
  · exact ⟨_, _, e1⟩
theorem PlS.mid {w : World} {T v : Value} {Q : List Nd} {wx wy w6 : World} (h : PlS w T Q v wx) (hb : Below wx.heap.size wx wy) (hg : wy.grownBy w6 v.ownBlock) : w6.heap[w.heap.size + 1]? = some (.cells #[v] 24 (0, 0)) := by
  have hy := h.later hb
  have hz1 : w.heap.size + 1 < wy.heap.size := (Array.getElem?_eq_some_iff.1 hy.ub).1
  have n1 : v.ownBlock ≠ some (w.heap.size + 1) := fun e => by
    obtain ⟨cur, h1, _⟩ := own_block hy.ow e
    rw [hy.ub] at h1
    cases h1
  rw [hg.block _ hz1 (Ne.symm n1)]
  exact hy.ub
theorem own_slice6 {w : World} {base : Nat} {e : TypeId} {size : Nat} {v : Value} {n : Nat} {xs : List Value} (h : w.ownsRow base e size v n xs) : ∃ a c, v = .slice a n c := by
  obtain ⟨h1, ⟨h2, h0⟩ | ⟨g, cap, cur, e1, _⟩⟩ := h
  · exact ⟨none, 0, by rw [h2, h0]⟩
  · exact ⟨_, _, e1⟩
/-- One node more. -/
theorem PlS.push {w : World} {T v : Value} {Q : List Nd} {wx wy w6 : World} (h : PlS w T Q v wx) (hb : Below wx.heap.size wx wy) (y : Nd) {v' : Value} (hg : wy.grownBy w6 v.ownBlock) (ho : w6.ownsRow w.heap.size 53 6 v' (Q.length + 1) (Q.flatMap ndc ++ ndc y)) : PlS w T (Q ++ [y]) v' (w6.setCell ⟨w.heap.size + 1, 0, none⟩ v') := by
  have hy := h.later hb
  have hw := h.bl.size
  have hws := hb.size
  have hz1 : w.heap.size + 1 < wy.heap.size := (Array.getElem?_eq_some_iff.1 hy.ub).1
  have hz0 : w.heap.size < wy.heap.size := by omega
  have n0 : v.ownBlock ≠ some w.heap.size := fun e => by
    obtain ⟨cur, h1, _⟩ := own_block hy.ow e
    rw [hy.tb] at h1
    cases h1
  have n1 : v.ownBlock ≠ some (w.heap.size + 1) := fun e => by
    obtain ⟨cur, h1, _⟩ := own_block hy.ow e
    rw [hy.ub] at h1
    cases h1
  have k0 : w6.heap[w.heap.size]? = some (.cells #[T] 24 (0, 0)) := by rw [hg.block _ hz0 (Ne.symm n0)]; exact hy.tb
  have k1 : w6.heap[w.heap.size + 1]? = some (.cells #[v] 24 (0, 0)) := by rw [hg.block _ hz1 (Ne.symm n1)]; exact hy.ub
  have hb6 : Below w.heap.size w w6 := hy.bl.grown hg hy.bl.size (fun k hk => by
    obtain ⟨cur, _, h2, _⟩ := own_block hy.ow hk
    exact h2)
  refine ⟨hb6.setCell (p := ⟨w.heap.size + 1, 0, none⟩) (by show w.heap.size ≤ w.heap.size + 1; omega) _, ?_, ?_, ?_⟩
  · rw [set_other (by omega)]
    exact k0
  · simp only [World.setCell, Array.getElem?_modify, if_true, k1, Option.map_some]
    rfl
  · rw [List.length_append, List.flatMap_append]
    simp only [List.length_singleton, List.flatMap_cons, List.flatMap_nil, List.append_nil]
    refine own_keep ho (fun g hg' => ?_)
    rw [set_other]
    rintro rfl
    obtain ⟨cur, h1, _⟩ := own_block ho hg'
    rw [k1] at h1
    cases h1
end Go.Proofs.YtkkmeogehapjoaaGreatDoor
