/- Sorting numbers of the kind uint64: the row that is sorted, and cmp.Less. -/
import Derived.Test.YtndbkkldfinggabM9
import Derived.Sort.AssemblyPlain
import Derived.Sort.WalkA
import Derived.CellFam
import Derived.BigRegion
import Derived.BigQuiet
import Derived.Deep.QuietTactic
namespace Go.Proofs.Ytndbkkldfinggab
open Go.RowKit Go.Shelf Go.Sort
/-- A row of numbers in a block: what else lay ahead of w lies as it lay. -/
structure Rw (w : World) (blk off : Nat) (d : Array Int) (W : World) : Prop where
  grown : w.grownBy W (some blk)
  cell : ∀ t, t < d.size → W.cell? ⟨blk, off + t, none⟩ = some (.int .u64 d[t]!)
  frozen : ∀ t, t < d.size → W.frozen? ⟨blk, off + t, none⟩ = false
  ty : ∃ cur, W.heap[blk]? = some (.cells cur 23 (0, 0))
theorem grown_drewN (w : World) (n : Nat) (row : Option Nat) : w.grownBy (w.drewN n) row := ⟨rfl, rfl, rfl, Nat.le_refl _, fun _ _ _ => rfl⟩
theorem Rw.drewN {w W : World} {blk off : Nat} {d : Array Int} (h : Rw w blk off d W) (n : Nat) : Rw w blk off d (W.drewN n) := ⟨h.grown.trans (grown_drewN W n _), h.cell, h.frozen, h.ty⟩
theorem Rw.drew {w W : World} {blk off : Nat} {d : Array Int} (h : Rw w blk off d W) : Rw w blk off d W.drew := h.drewN 1
theorem Rw.trans {w W W' : World} {blk off : Nat} {d d' : Array Int} (h : Rw w blk off d W) (k : Rw W blk off d' W') : Rw w blk off d' W' := ⟨h.grown.trans k.grown, k.cell, k.frozen, k.ty⟩
theorem grownBy_setX (W : World) (b o : Nat) (v : Value) : W.grownBy (W.setCell ⟨b, o, none⟩ v) (some b) :=
  ⟨rfl, rfl, rfl, (KeepsWalks.setCell W _ v).size, fun k _ hk => Below.heap_setCell _ _ _ k (fun e => hk (by rw [e]))⟩
theorem setCell_ty {W : World} {b : Nat} {cur : Array Value} {e : TypeId} {fz : Nat × Nat} (h : W.heap[b]? = some (.cells cur e fz)) (o : Nat) (v : Value) : (W.setCell ⟨b, o, none⟩ v).heap[b]? = some (.cells (cur.setIfInBounds o v) e fz) := by
  rw [setCell_eq]
  unfold mapBlock
  have hl := (Array.getElem?_eq_some_iff.1 h)
  obtain ⟨hlt, hk⟩ := hl
  show (W.heap.modify b _)[b]? = _
  rw [Array.getElem?_eq_getElem (by rw [Array.size_modify]; exact hlt), Array.getElem_modify_self, hk]
  rfl
theorem Rw.set {w W : World} {blk off : Nat} {d : Array Int} (h : Rw w blk off d W) (i : Nat) (x : Int) : Rw w blk off (d.setIfInBounds i x) (W.setCell ⟨blk, off + i, none⟩ (.int .u64 x)) := by
  refine ⟨h.grown.trans (grownBy_setX _ _ _ _), fun t ht => ?_, fun t ht => ?_, by obtain ⟨cur, hc⟩ := h.ty; exact ⟨_, setCell_ty hc _ _⟩⟩
  · rw [Array.size_setIfInBounds] at ht
    by_cases e : t = i
    · subst e
      rw [getElem!_set_same _ _ _ ht]
      exact World.cell?_setCell_same' _ _ _ (by rw [h.cell t ht]; rfl)
    · rw [getElem!_set_other _ _ _ _ e, World.cell?_setCell_other _ _ _ _ (by intro h; injection h with h1 h2; omega)]
      exact h.cell t ht
  · rw [Array.size_setIfInBounds] at ht
    rw [World.frozen?_setCell]
    exact h.frozen t ht
theorem swp_comm (d : Array Int) (i j : Nat) : (d.setIfInBounds j d[i]!).setIfInBounds i d[j]! = swp d i j := by
  unfold swp
  by_cases e : i = j
  · subst e; rfl
  · exact Array.setIfInBounds_comm _ _ (by omega)
/-- Two numbers of the row have changed places. -/
theorem Rw.swap {w W : World} {blk off : Nat} {d : Array Int} (h : Rw w blk off d W) (i j : Nat) : Rw w blk off (swp d i j) ((W.setCell ⟨blk, off + i, none⟩ (.int .u64 d[j]!)).setCell ⟨blk, off + j, none⟩ (.int .u64 d[i]!)) := (h.set i d[j]!).set j d[i]!
theorem Rw.swap' {w W : World} {blk off : Nat} {d : Array Int} (h : Rw w blk off d W) (i j : Nat) : Rw w blk off (swp d i j) ((W.setCell ⟨blk, off + j, none⟩ (.int .u64 d[i]!)).setCell ⟨blk, off + i, none⟩ (.int .u64 d[j]!)) := by
  rw [← swp_comm]; exact (h.set j d[i]!).set i d[j]!
set_option maxHeartbeats 1000000 in
theorem nan77 (x : Int) (w : World) : Calls Try.prog 77 #[.int .u64 x] w fun e w' => e = .returned (.bool false) ∧ w' = w := by
  go_enter Try.func77, Try.ntmps77
  go_wp2
  go_ret
  exact ⟨by simp, rfl⟩
set_option maxHeartbeats 1000000 in
theorem less67 (x y : Int) (w : World) : Calls Try.prog 67 #[.int .u64 x, .int .u64 y] w fun e w' => e = .returned (.bool (ltInt x y)) ∧ w' = w := by
  go_enter Try.func67, Try.ntmps67
  go_wp2_with ((go_at_call 77; refine (nan77 _ _).mono ?_; rintro e w' ⟨rfl, rfl⟩))
  go_ret
  exact ⟨rfl, rfl⟩
end Go.Proofs.Ytndbkkldfinggab
