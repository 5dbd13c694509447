/- Kinds that are known: the document's own. -/
import Derived.Test.YtkkmeogehapjoaaGreatDoorR1
namespace Go.Proofs.YtkkmeogehapjoaaGreatDoor
open Go.RowKit Go.Shelf
/-- A kind that is known. -/
def knB (k : Int) : Bool := (decide (1 ≤ k) && decide (k ≤ 7)) || (tyB k || (decide (k = 20) || (stB k || ((decide (30 ≤ k) && decide (k ≤ 47)) || paB k))))
set_option maxHeartbeats 4000000 in
theorem known74 (k : Int) (w : World) : Calls Tryz.prog 74 #[.int .i64 k] w fun e w' => e = .returned (.bool (knB k)) ∧ w' = w := by
  have HT : Hid (∀ W, Calls Tryz.prog 39 #[.int .i64 k] W fun e w' => e = .returned (.bool (tyB k)) ∧ w' = W) := fun W => type39 k W
  have HS : Hid (∀ W, Calls Tryz.prog 51 #[.int .i64 k] W fun e w' => e = .returned (.bool (stB k)) ∧ w' = W) := fun W => stmt51 k W
  have HP : Hid (∀ W, Calls Tryz.prog 98 #[.int .i64 k] W fun e w' => e = .returned (.bool (paB k)) ∧ w' = W) := fun W => patt98 k W
  unfold knB
  generalize tyB k = bt at *
  generalize stB k = bs at *
  generalize paB k = bp at *
  simp only [deq]
  go_enter Tryz.func74, Tryz.ntmps74
  go_wp2_with (first | (go_at_call 39; refine (HT.out _).mono ?_; rintro e w' ⟨rfl, rfl⟩) | (go_at_call 51; refine (HS.out _).mono ?_; rintro e w' ⟨rfl, rfl⟩) | (go_at_call 98; refine (HP.out _).mono ?_; rintro e w' ⟨rfl, rfl⟩))
  all_goals go_ret
  all_goals refine ⟨ret_bool ?_, rfl⟩
  all_goals clear HT HS HP
  all_goals try subst_vars
  all_goals (first | (simp_all; done) | (simp_all <;> omega) | (rw [Bool.eq_iff_iff]; cases bt <;> cases bs <;> cases bp <;> simp_all <;> omega))
end Go.Proofs.YtkkmeogehapjoaaGreatDoor
