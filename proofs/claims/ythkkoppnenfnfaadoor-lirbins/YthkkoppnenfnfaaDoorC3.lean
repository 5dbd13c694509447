/- A part of memory is found, and ends. -/
import Derived.Test.YthkkoppnenfnfaaDoorC1
namespace Go.Proofs.YthkkoppnenfnfaaDoor
open Go.RowKit Go.Shelf
set_option maxHeartbeats 1000000 in
theorem later69 (R P pa b1 b2 : Nat) (w : World) (h1 : w.cell? ⟨b1, 0, none⟩ = some (.pointer (some ⟨R, 4, none⟩))) (h2 : w.cell? ⟨b2, 0, none⟩ = some (.int .i64 65536)) (h4 : w.cell? ⟨R, 4, none⟩ = some (.slice (some ⟨P, 0, none⟩) 1 pa)) (p1 : w.cell? ⟨P, 1, none⟩ = some (.int .i64 65536)) : Calls Tryd.prog 69 #[.int .i64 0, .pointer (some ⟨b1, 0, none⟩), .pointer (some ⟨b2, 0, none⟩)] w fun e w' => e = .returned (.bool false) ∧ ∃ n, w' = w.drewN n := by
  go_enter Tryd.func69, Tryd.ntmps69
  go_wp2
  go_quiet (fail)
  go_wp2
  go_ret
  exact ⟨rfl, _, rfl⟩
set_option maxHeartbeats 2000000 in
theorem search68 (R P pa b1 b2 : Nat) (w : World) (h1 : w.cell? ⟨b1, 0, none⟩ = some (.pointer (some ⟨R, 4, none⟩))) (h2 : w.cell? ⟨b2, 0, none⟩ = some (.int .i64 65536)) (h4 : w.cell? ⟨R, 4, none⟩ = some (.slice (some ⟨P, 0, none⟩) 1 pa)) (p1 : w.cell? ⟨P, 1, none⟩ = some (.int .i64 65536)) : Calls Tryd.prog 68 #[.int .i64 1, .func (.func 69) #[] #[.pointer (some ⟨b1, 0, none⟩), .pointer (some ⟨b2, 0, none⟩)]] w fun e w' => e = .returned (.int .i64 1) ∧ ∃ n, w' = w.drewN n := by
  have hL : Hid (Calls Tryd.prog 69 #[.int .i64 0, .pointer (some ⟨b1, 0, none⟩), .pointer (some ⟨b2, 0, none⟩)] w fun e w' => e = .returned (.bool false) ∧ ∃ n, w' = w.drewN n) := later69 R P pa b1 b2 w h1 h2 h4 p1
  clear h1 h2 h4 p1
  go_enter Tryd.func68, Tryd.ntmps68
  go_wp2
  refine wp_loop_rounds 2 ?_
  rw [rounds_succ]
  go_wp2_with (first | (go_at_call 69; refine hL.out.mono ?_; rintro e w1 ⟨rfl, n1, rfl⟩))
  rw [rounds_succ]
  go_wp2
  go_ret
  exact ⟨rfl, _, rfl⟩
set_option maxHeartbeats 2000000 in
theorem find60 (R P pa : Nat) (w : World) (h4 : w.cell? ⟨R, 4, none⟩ = some (.slice (some ⟨P, 0, none⟩) 1 pa)) (p1 : w.cell? ⟨P, 1, none⟩ = some (.int .i64 65536)) (hR : R < w.heap.size) (hP : P < w.heap.size) : Calls Tryd.prog 60 #[.pointer (some ⟨R, 4, none⟩), .int .i64 65536] w fun e w' => e = .returned (.int .i64 0) ∧ Below w.heap.size w w' := by
  have q4 := acell (by simp; omega) (acell hR h4 (.cells #[.pointer (some ⟨R, 4, none⟩)] 90)) (.cells #[.int .i64 65536] 2)
  have q1 := acell (by simp; omega) (acell hP p1 (.cells #[.pointer (some ⟨R, 4, none⟩)] 90)) (.cells #[.int .i64 65536] 2)
  have hS := search68 R P pa w.heap.size (w.heap.size + 1) _ (by go_simp) (by go_simp) q4 q1
  go_enter Tryd.func60, Tryd.ntmps60
  go_wp2_with (first | (go_at_call 68; refine hS.mono ?_; rintro e w1 ⟨rfl, n1, rfl⟩))
  go_ret
  exact ⟨rfl, below_drewN (((Below.refl _ _).alloc (Nat.le_refl _) _).alloc (by simp) _) n1⟩
end Go.Proofs.YthkkoppnenfnfaaDoor
