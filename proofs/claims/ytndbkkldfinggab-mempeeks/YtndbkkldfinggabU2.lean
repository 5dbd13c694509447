/- A memory that owns its pages: what a store leaves. -/
import Derived.Test.YtndbkkldfinggabR4
import Derived.Test.YtndbkkldfinggabF5
import Derived.Test.YtndbkkldfinggabP3
namespace Go.Proofs.Ytndbkkldfinggab
open Go.RowKit Go.Shelf
/-- A memory whose pages lie in blocks of their own. -/
structure Mo (W : World) (b r : Nat) (ps : List Pgd) (bt : Nat → Nat → Int) : Prop where
  mm : Mm W b r ps bt
  own : ∀ x ∈ ps, ∃ cur, W.heap[x.g]? = some (Obj.cells cur 5 (0, 0))
  apart : ∀ x ∈ ps, ∀ y ∈ ps, x.g = y.g → x = y
def setB (bt : Nat → Nat → Int) (g j : Nat) (y : Int) : Nat → Nat → Int := fun g' j' => if g' = g ∧ j' = j then y else bt g' j'
theorem Mo.ne {W : World} {b r : Nat} {ps : List Pgd} {bt : Nat → Nat → Int} (h : Mo W b r ps bt) {x : Pgd} (hx : x ∈ ps) : x.g ≠ b ∧ x.g ≠ r ∧ x.g < W.heap.size := by
  obtain ⟨cur, hc⟩ := h.own x hx
  refine ⟨fun e => ?_, fun e => ?_, lt_of_some hc⟩
  · have t := h.mm.data x hx 0 (by omega)
    rw [e, h.mm.cell] at t
    cases t
  · have t := h.mm.map
    rw [← e, hc] at t
    cases t
/-- All blocks below B but the pages' stay. -/
structure But (ps : List Pgd) (B : Nat) (w W : World) : Prop where
  os : W.os = w.os
  tape : W.tape = w.tape
  output : W.output = w.output
  size : w.heap.size ≤ W.heap.size
  block : ∀ k, k < B → (∀ x ∈ ps, k ≠ x.g) → W.heap[k]? = w.heap[k]?
theorem But.of_below {ps : List Pgd} {B : Nat} {w W : World} (h : Below B w W) : But ps B w W := ⟨h.os, h.tape, h.output, h.size, fun k hk _ => h.block k hk⟩
theorem But.below {ps : List Pgd} {B B' : Nat} {w W : World} (h : But ps B' w W) (hb : B ≤ B') (hg : ∀ x ∈ ps, B ≤ x.g) : Below B w W := ⟨h.os, h.tape, h.output, h.size, fun k hk => h.block k (by omega) (fun x hx e => by have := hg x hx; omega)⟩
theorem But.trans {ps : List Pgd} {B : Nat} {w W W' : World} (h : But ps B w W) (k : But ps B W W') : But ps B w W' := ⟨k.os.trans h.os, k.tape.trans h.tape, k.output.trans h.output, Nat.le_trans h.size k.size, fun i hi hx => (k.block i hi hx).trans (h.block i hi hx)⟩
theorem But.grown {ps : List Pgd} {B : Nat} {w W W' : World} {row : Option Nat} (h : But ps B w W) (hg : W.grownBy W' row) (hB : B ≤ W.heap.size) (hr : ∀ k, row = some k → B ≤ k ∨ ∃ x ∈ ps, k = x.g) : But ps B w W' := by
  refine ⟨hg.os.trans h.os, hg.tape.trans h.tape, hg.output.trans h.output, Nat.le_trans h.size hg.size, fun k hk hx => (hg.block k (by omega) (fun e => ?_)).trans (h.block k hk hx)⟩
  rcases hr k e.symm with h1 | ⟨x, hx1, e1⟩
  · omega
  · exact hx x hx1 e1
theorem Mo.grown {W W' : World} {b r : Nat} {ps : List Pgd} {bt : Nat → Nat → Int} {row : Option Nat} (h : Mo W b r ps bt) (hg : W.grownBy W' row) (hb : row ≠ some b) (hr : row ≠ some r) (hx : ∀ x ∈ ps, row ≠ some x.g) : Mo W' b r ps bt := by
  have F : ∀ k, k < W.heap.size → row ≠ some k → W'.heap[k]? = W.heap[k]? := fun k hk hn => hg.block k hk (fun e => hn e.symm)
  have lb := lt_of_cell h.mm.cell
  have lr := lt_of_some h.mm.map
  refine ⟨⟨?_, (F r lr hr).trans h.mm.map, fun x hxm j hj => ?_, h.mm.small, h.mm.caps⟩, fun x hxm => ?_, h.apart⟩
  · have t := h.mm.cell; simp only [World.cell?, F b lb hb] at t ⊢; exact t
  · have t := h.mm.data x hxm j hj; simp only [World.cell?, F x.g (h.ne hxm).2.2 (hx x hxm)] at t ⊢; exact t
  · obtain ⟨cur, hc⟩ := h.own x hxm; exact ⟨cur, (F x.g (h.ne hxm).2.2 (hx x hxm)).trans hc⟩
theorem Mo.put {W : World} {b r : Nat} {ps : List Pgd} {bt : Nat → Nat → Int} (h : Mo W b r ps bt) {x : Pgd} (hx : x ∈ ps) {j : Nat} (hj : j < 4096) {y : Int} (hy : 0 ≤ y ∧ y < 256) : Mo (W.setCell ⟨x.g, j, none⟩ (.int .u8 y)) b r ps (setB bt x.g j y) := by
  obtain ⟨n1, n2, n3⟩ := h.ne hx
  have hg := grown_set W x.g j (.int .u8 y)
  have F : ∀ k, k < W.heap.size → k ≠ x.g → (W.setCell ⟨x.g, j, none⟩ (.int .u8 y)).heap[k]? = W.heap[k]? := fun k hk hn => hg.block k hk (fun e => hn (by cases e; rfl))
  have lb := lt_of_cell h.mm.cell
  have lr := lt_of_some h.mm.map
  refine ⟨⟨?_, (F r lr (Ne.symm n2)).trans h.mm.map, fun z hz i hi => ?_, fun g i => ?_, h.mm.caps⟩, fun z hz => ?_, h.apart⟩
  · have t := h.mm.cell; simp only [World.cell?, F b lb (Ne.symm n1)] at t ⊢; exact t
  · unfold setB
    by_cases e : z.g = x.g
    · by_cases ei : i = j
      · subst ei
        rw [if_pos ⟨e, rfl⟩, e]
        exact World.cell?_setCell_same _ _ _ (h.mm.data x hx i hj)
      · rw [if_neg (fun k => ei k.2), e]
        have t := h.mm.data z hz i hi
        rw [e] at t
        rw [← t]
        obtain ⟨cur, hc⟩ := h.own x hx
        simp only [World.cell?, cells_set j _ hc, hc]
        simp [Ne.symm ei]
    · rw [if_neg (fun k => e k.1)]
      have t := h.mm.data z hz i hi
      simp only [World.cell?, F z.g (h.ne hz).2.2 e] at t ⊢; exact t
  · unfold setB; split
    · exact hy
    · exact h.mm.small g i
  · by_cases e : z.g = x.g
    · obtain ⟨cur, hc⟩ := h.own x hx; rw [e]; exact ⟨_, cells_set j _ hc⟩
    · obtain ⟨cur, hc⟩ := h.own z hz; exact ⟨cur, (F z.g (h.ne hz).2.2 e).trans hc⟩
end Go.Proofs.Ytndbkkldfinggab
