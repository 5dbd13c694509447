/- Blocks of cells, as they are. -/
import Derived.Test.YthkkoppnenfnfaaDoorB2
import Derived.Deep.AppendLies
import Derived.Deep.RegionLawGrows
namespace Go.Proofs.YthkkoppnenfnfaaDoor
open Go.RowKit Go.Shelf
theorem cells_set {W : World} {m : Nat} {cs : Array Value} {t : TypeId} (o : Nat) (v : Value) (h : W.heap[m]? = some (Obj.cells cs t (0, 0))) : (W.setCell ⟨m, o, none⟩ v).heap[m]? = some (Obj.cells (cs.setIfInBounds o v) t (0, 0)) := by
  obtain ⟨hlt, hk⟩ := Array.getElem?_eq_some_iff.1 h
  show (W.heap.modify m _)[m]? = _
  rw [Array.getElem?_eq_getElem (by rw [Array.size_modify]; exact hlt), Array.getElem_modify_self, hk]
  rfl
theorem grown_set (W : World) (g o : Nat) (v : Value) : W.grownBy (W.setCell ⟨g, o, none⟩ v) (some g) :=
  ⟨rfl, rfl, rfl, by simp, fun k _ hne => Below.heap_setCell _ _ _ _ (fun e => hne (by rw [e]))⟩
/-- Block b begins with these cells. -/
def Cl (W : World) (b : Nat) (f : List Value) : Prop := ∃ (cs : Array Value) (t : TypeId), W.heap[b]? = some (Obj.cells cs t (0, 0)) ∧ ∀ (j : Nat) (v : Value), f[j]? = some v → cs[j]? = some v
theorem Cl.lt {W : World} {b : Nat} {f : List Value} (h : Cl W b f) : b < W.heap.size := by
  obtain ⟨cs, t, h, _⟩ := h
  exact (Array.getElem?_eq_some_iff.1 h).1
theorem Cl.cell {W : World} {b : Nat} {f : List Value} (h : Cl W b f) {j : Nat} {v : Value} (hj : f[j]? = some v) : W.cell? ⟨b, j, none⟩ = some v := by
  obtain ⟨cs, t, h, hc⟩ := h
  simp only [World.cell?, h]
  simpa using hc j v hj
theorem Cl.fz {W : World} {b : Nat} {f : List Value} (h : Cl W b f) (j : Nat) : W.frozen? ⟨b, j, none⟩ = false := by
  obtain ⟨cs, t, h, hc⟩ := h
  simp only [World.frozen?, h]
  simp
theorem Cl.keep {W W' : World} {b : Nat} {f : List Value} (h : Cl W b f) (e : W'.heap[b]? = W.heap[b]?) : Cl W' b f := by
  obtain ⟨cs, t, h, hc⟩ := h
  exact ⟨cs, t, e.trans h, hc⟩
theorem Cl.below {W W' : World} {b : Nat} {f : List Value} (h : Cl W b f) (hb : Below W.heap.size W W') : Cl W' b f := h.keep (hb.block b h.lt)
theorem Cl.alloc {W : World} {b : Nat} {f : List Value} (h : Cl W b f) (o : Obj) : Cl (W.alloc o) b f := h.below ((Below.refl _ _).alloc (Nat.le_refl _) o)
theorem Cl.drew {W : World} {b : Nat} {f : List Value} (h : Cl W b f) : Cl W.drew b f := h.below (Below.refl _ _).drew
theorem Cl.grown {W W' : World} {b : Nat} {f : List Value} {r : Option Nat} (h : Cl W b f) (g : W.grownBy W' r) (hr : some b ≠ r) : Cl W' b f := h.keep (g.block b h.lt hr)
theorem Cl.other {W : World} {b g o : Nat} {f : List Value} {v : Value} (h : Cl W b f) (hn : b ≠ g) : Cl (W.setCell ⟨g, o, none⟩ v) b f := h.grown (grown_set W g o v) (fun e => hn (by cases e; rfl))
theorem Cl.set {W : World} {b o : Nat} {f : List Value} (h : Cl W b f) (ho : o < f.length) (v : Value) : Cl (W.setCell ⟨b, o, none⟩ v) b (f.set o v) := by
  obtain ⟨cs, t, h, hc⟩ := h
  have hs : o < cs.size := by
    have := hc o (f[o]) (List.getElem?_eq_getElem ho)
    exact (Array.getElem?_eq_some_iff.1 this).1
  refine ⟨_, t, cells_set o v h, fun j u hj => ?_⟩
  rw [Array.getElem?_setIfInBounds]
  by_cases e : o = j
  · subst e
    rw [List.getElem?_set_self ho] at hj
    simp [hs]
    simpa using hj
  · rw [List.getElem?_set_ne e] at hj
    simp only [e, if_false]
    exact hc j u hj
theorem Cl.new (W : World) (f : List Value) (t : TypeId) : Cl (W.alloc (.cells f.toArray t)) W.heap.size f := by
  refine ⟨f.toArray, t, ?_, fun j v h => by simpa using h⟩
  exact (Go.MapKept.heap_alloc W _).1
theorem Cl.own {W : World} {base : Nat} {e : TypeId} {size : Nat} {g n cap : Nat} {xs : List Value} (h : W.ownsRow base e size (.slice (some ⟨g, 0, none⟩) n cap) n xs) : Cl W g xs ∧ base ≤ g := by
  have h' := h
  obtain ⟨h1, ⟨h2, h0⟩ | ⟨g', cap', cur, e1, e2, e3, e4, e5, r⟩⟩ := h
  · cases h2
  · cases e1
    refine ⟨⟨cur, e, e3, fun j v hj => ?_⟩, e2⟩
    have t := h'.cellAt j (by have := (List.getElem?_eq_some_iff.1 hj).1; omega)
    rw [hj] at t
    simp only [World.cell?, e3] at t
    simpa using t
end Go.Proofs.YthkkoppnenfnfaaDoor
