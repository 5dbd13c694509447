/- A run's little functions. -/
import Derived.Test.YthkkoppnenfnfaaDoorC0
namespace Go.Proofs.YthkkoppnenfnfaaDoor
open Go.RowKit Go.Shelf
set_option maxHeartbeats 1000000 in
theorem innermost40 (R C ca : Nat) (w : World) (h3 : w.cell? ⟨R, 3, none⟩ = some (.slice (some ⟨C, 0, none⟩) 1 ca)) : Calls Tryd.prog 40 #[.pointer (some ⟨R, 0, none⟩)] w fun e w' => e = .returned (.pointer (some ⟨C, 0, none⟩)) ∧ ∃ n, w' = w.drewN n := by
  go_enter Tryd.func40, Tryd.ntmps40
  go_wp2
  go_quiet (fail)
  go_wp2
  go_ret
  exact ⟨rfl, _, rfl⟩
theorem dcell {w : World} {b o : Nat} {v : Value} (h : w.cell? ⟨b, o, none⟩ = some v) : ∀ n, (w.drewN n).cell? ⟨b, o, none⟩ = some v := fun _ => h
set_option maxHeartbeats 1000000 in
theorem instruction34 (R C ca y x : Nat) (k : Nat) (w : World) (hk : k < 3) (h3 : w.cell? ⟨R, 3, none⟩ = some (.slice (some ⟨C, 0, none⟩) 1 ca)) (c0 : w.cell? ⟨C, 0, none⟩ = some (.slice (some ⟨y, 0, none⟩) 1 1)) (c4 : w.cell? ⟨C, 4, none⟩ = some (.int .i64 0)) (c5 : w.cell? ⟨C, 5, none⟩ = some (.int .i64 k)) (y0 : w.cell? ⟨y, 0, none⟩ = some (.slice (some ⟨x, 0, none⟩) 3 3)) : Calls Tryd.prog 34 #[.pointer (some ⟨R, 0, none⟩)] w fun e w' => e = .returned (.pointer (some ⟨x, 9 * k, none⟩)) ∧ ∃ n, w' = w.drewN n := by
  have hI : Hid (Calls Tryd.prog 40 #[.pointer (some ⟨R, 0, none⟩)] w fun e w' => e = .returned (.pointer (some ⟨C, 0, none⟩)) ∧ ∃ n, w' = w.drewN n) := innermost40 R C ca w h3
  have c0' := dcell c0
  have c4' := dcell c4
  have c5' := dcell c5
  have y0' := dcell y0
  clear c0 c4 c5 y0 h3
  rcases (by omega : k = 0 ∨ k = 1 ∨ k = 2) with rfl | rfl | rfl
  all_goals
    go_enter Tryd.func34, Tryd.ntmps34
    go_wp2_with (first | (go_at_call 40; refine hI.out.mono ?_; rintro e w1 ⟨rfl, n1, rfl⟩))
    go_quiet (fail)
    go_wp2
    go_ret
    exact ⟨rfl, _, World.drewN_drewN _ _ _⟩
set_option maxHeartbeats 1000000 in
theorem deep_1 (R x o : Nat) (w : World) (h : w.cell? ⟨x, o, none⟩ = some (.int .i64 1)) : Calls Tryd.prog 35 #[.pointer (some ⟨R, 0, none⟩), .pointer (some ⟨x, o, none⟩)] w fun e w' => e = .returned (.bool false) ∧ w' = w := by
  go_enter Tryd.func35, Tryd.ntmps35
  go_wp2
  go_ret
  exact ⟨rfl, rfl⟩
set_option maxHeartbeats 1000000 in
theorem deep_10 (R x o : Nat) (w : World) (h : w.cell? ⟨x, o, none⟩ = some (.int .i64 10)) : Calls Tryd.prog 35 #[.pointer (some ⟨R, 0, none⟩), .pointer (some ⟨x, o, none⟩)] w fun e w' => e = .returned (.bool false) ∧ w' = w := by
  go_enter Tryd.func35, Tryd.ntmps35
  go_wp2
  go_ret
  exact ⟨rfl, rfl⟩
set_option maxHeartbeats 1000000 in
theorem deep_call (R C ca x o : Nat) (w : World) (h3 : w.cell? ⟨R, 3, none⟩ = some (.slice (some ⟨C, 0, none⟩) 1 ca)) (h : w.cell? ⟨x, o, none⟩ = some (.int .i64 7)) : Calls Tryd.prog 35 #[.pointer (some ⟨R, 0, none⟩), .pointer (some ⟨x, o, none⟩)] w fun e w' => e = .returned (.bool false) ∧ w' = w := by
  go_enter Tryd.func35, Tryd.ntmps35
  go_wp2
  go_ret
  exact ⟨rfl, rfl⟩
set_option maxHeartbeats 1000000 in
theorem end36 (R : Nat) (a b : Int) (f : List Value) (w : World) (h : Cl w R f) (hf : f.length = 13) : Calls Tryd.prog 36 #[.pointer (some ⟨R, 0, none⟩), .int .i64 a, .int .i64 b] w fun e w' => e = .returned (.tuple #[]) ∧ w' = (w.setCell ⟨R, 9, none⟩ (.int .i64 a)).setCell ⟨R, 10, none⟩ (.int .i64 b) := by
  have c9 := h.cell (j := 9) (List.getElem?_eq_getElem (by omega))
  have c10 := h.cell (j := 10) (List.getElem?_eq_getElem (by omega))
  have z9 := h.fz 9
  have z10 := h.fz 10
  generalize f[9] = v9 at *
  generalize f[10] = v10 at *
  clear h
  go_enter Tryd.func36, Tryd.ntmps36
  go_wp2
  go_returns
  exact ⟨rfl, rfl⟩
set_option maxHeartbeats 1000000 in
theorem value_none (C : Nat) (w : World) : Calls Tryd.prog 45 #[.pointer (some ⟨C, 0, none⟩), .int .i64 (-1)] w fun e w' => e = .returned (.int .i64 0) ∧ w' = w := by
  go_enter Tryd.func45, Tryd.ntmps45
  go_wp2
  go_ret
  exact ⟨rfl, rfl⟩
set_option maxHeartbeats 1000000 in
theorem answer_none (R : Nat) (v : Int) (w : World) : Calls Tryd.prog 50 #[.pointer (some ⟨R, 0, none⟩), .int .i64 (-1), .int .i64 v] w fun e w' => e = .returned (.tuple #[]) ∧ w' = w := by
  go_enter Tryd.func50, Tryd.ntmps50
  go_wp2
  go_returns
  exact ⟨rfl, rfl⟩
end Go.Proofs.YthkkoppnenfnfaaDoor
