/- Worlds that have drawn, and in which blocks were laid behind. The great region of an instruction's look: its order. -/
import Derived.Test.YtdppoblbenbafaaGreatDoorAA
import Derived.Shelf.SlSortCmp.QuietGrown
import Derived.Handy
namespace Go.Proofs.YtdppoblbenbafaaGreatDoor
section
open Go.RowKit Go.Shelf
/-- The world has drawn some times, and has blocks more. -/
def G (w w' : World) : Prop := ∃ q os, w' = Go.Sort.grow (w.drewN q) os
theorem G.refl (w : World) : G w w := ⟨0, #[], by simp; rfl⟩
theorem G.alloc {w w' : World} (h : G w w') (o : Obj) : G w (w'.alloc o) := by
  obtain ⟨q, os, rfl⟩ := h
  exact ⟨q, os ++ #[o], by rw [Go.Sort.alloc_eq_grow, Go.Sort.grow_grow]⟩
theorem G.trans {a b c : World} (h : G a b) (h' : G b c) : G a c := by
  obtain ⟨q, os, rfl⟩ := h
  obtain ⟨q', os', rfl⟩ := h'
  exact ⟨q + q', os ++ os', by show Go.Sort.grow (Go.Sort.grow ((a.drewN q).drewN q') os) os' = _; rw [Go.Sort.grow_grow, World.drewN_drewN]⟩
theorem G.below {w w' : World} (h : G w w') : Below w.heap.size w w' := by
  obtain ⟨q, os, rfl⟩ := h
  refine ⟨rfl, rfl, rfl, by simp, fun i hi => ?_⟩
  show ((w.drewN q).heap ++ os)[i]? = _
  rw [Array.getElem?_append_left (by exact hi)]
  rfl
theorem G.to {P : Program} {f : FuncId} {args : Array Value} {w : World} {n : Nat} {os : Array Obj} {v : Value} (h : Calls P f args (Go.Sort.grow (w.drewN n) os) fun e w' => e = .returned v ∧ G (Go.Sort.grow (w.drewN n) os) w') : Calls P f args (Go.Sort.grow (w.drewN n) os) fun e w'' => e = .returned v ∧ ∃ p : GrownBy, w'' = Go.Sort.grow (w.drewN p.n) p.os := Calls.grown_of h
theorem G.same {P : Program} {f : FuncId} {args : Array Value} {w : World} {n : Nat} {os : Array Obj} {v : Value} (h : Calls P f args (Go.Sort.grow (w.drewN n) os) fun e w' => e = .returned v ∧ w' = Go.Sort.grow (w.drewN n) os) : Calls P f args (Go.Sort.grow (w.drewN n) os) fun e w'' => e = .returned v ∧ ∃ p : GrownBy, w'' = Go.Sort.grow (w.drewN p.n) p.os :=
  h.mono fun _ _ ⟨he, hw⟩ => ⟨he, ⟨n, os⟩, hw⟩
theorem gcell {W : World} {b o : Nat} {v : Value} (hb : b < W.heap.size) (h : W.cell? ⟨b, o, none⟩ = some v) : ∀ n os, (Go.Sort.grow (W.drewN n) os).cell? ⟨b, o, none⟩ = some v := fun n os => cell_grown (a := ⟨b, o, none⟩) hb h n os
end
section
open Go.RowKit Go.Shelf
/-- The operations of a region, by its number. -/
def opsOf : Code → Nat → List Oper
  | .region id ops _, n => if id = n then ops.toList else []
  | .seq a b, n => match opsOf a n with
    | [] => opsOf b n
    | l => l
  | .cond _ a b, n => match opsOf a n with
    | [] => opsOf b n
    | l => l
  | .block _ b, n => opsOf b n
  | .loop b, n => opsOf b n
  | .scope b, n => opsOf b n
  | _, _ => []
theorem lex59 : Region.lexB .any (opsOf (Tryz.f91.body.getD .skip) 11).toArray = true := by kernel_rfl
end
end Go.Proofs.YtdppoblbenbafaaGreatDoor
