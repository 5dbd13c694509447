/- Whether a tree is right: the program's own. -/
import Derived.Test.YtkkmeogehapjoaaGreatDoorX4
namespace Go.Proofs.YtkkmeogehapjoaaGreatDoor
open Go.RowKit Go.Shelf
set_option maxRecDepth 100000 in
set_option maxHeartbeats 4000000 in
theorem right_size (l : List Nd) (ao : Option Addr) (c : Nat) (w : World) (hl : NdA w ao c l) (hz : l.length = 0 ∨ 20000 < l.length) : Calls Tryz.prog 30 #[.slice ao l.length c] w fun e w' => e = .returned (.bool (rightB l)) ∧ Below w.heap.size w w' := by
  have hr : rightB l = false := by unfold rightB; rw [if_pos (by omega)]
  have hc1 := hl.1
  have hc2 := hl.2.1
  rw [hr]
  clear hl hr
  generalize l.length = n at *
  rcases hz with rfl | hz
  · go_enter Tryz.func30, Tryz.ntmps30
    go_wp2
    go_ret
    exact ⟨rfl, Below.refl _ _⟩
  · have hz' : (20000 : Int) < (n : Int) := by omega
    have hz0 : ¬ (n : Int) = 0 := by omega
    clear hz
    go_enter Tryz.func30, Tryz.ntmps30
    go_wp2
    go_ret
    exact ⟨rfl, Below.refl _ _⟩
end Go.Proofs.YtkkmeogehapjoaaGreatDoor
