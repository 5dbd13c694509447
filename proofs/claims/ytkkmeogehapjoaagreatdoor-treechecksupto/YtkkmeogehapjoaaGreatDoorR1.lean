/- Kinds by classes: the document's own. -/
import Derived.Test.YtkkmeogehapjoaaGreatDoorSA
namespace Go.Proofs.YtkkmeogehapjoaaGreatDoor
open Go.RowKit Go.Shelf
def tyB (k : Int) : Bool := decide (10 ≤ k) && decide (k ≤ 16)
def stB (k : Int) : Bool := decide (21 ≤ k) && decide (k ≤ 27)
def paB (k : Int) : Bool := decide (50 ≤ k) && decide (k ≤ 54)
def exB (k : Int) : Bool := decide (k = 20) || (decide (30 ≤ k) && (decide (k ≤ 46) && !(decide (k = 36))))
set_option maxHeartbeats 1000000 in
theorem type39 (k : Int) (w : World) : Calls Tryz.prog 39 #[.int .i64 k] w fun e w' => e = .returned (.bool (tyB k)) ∧ w' = w := by
  unfold tyB
  go_enter Tryz.func39, Tryz.ntmps39
  go_wp2
  all_goals go_ret
  all_goals exact ⟨ret_bool (by simp_all <;> omega), rfl⟩
set_option maxHeartbeats 1000000 in
theorem stmt51 (k : Int) (w : World) : Calls Tryz.prog 51 #[.int .i64 k] w fun e w' => e = .returned (.bool (stB k)) ∧ w' = w := by
  unfold stB
  go_enter Tryz.func51, Tryz.ntmps51
  go_wp2
  all_goals go_ret
  all_goals exact ⟨ret_bool (by simp_all <;> omega), rfl⟩
set_option maxHeartbeats 1000000 in
theorem patt98 (k : Int) (w : World) : Calls Tryz.prog 98 #[.int .i64 k] w fun e w' => e = .returned (.bool (paB k)) ∧ w' = w := by
  unfold paB
  go_enter Tryz.func98, Tryz.ntmps98
  go_wp2
  all_goals go_ret
  all_goals exact ⟨ret_bool (by simp_all <;> omega), rfl⟩
set_option maxHeartbeats 1000000 in
theorem expr115 (k : Int) (w : World) : Calls Tryz.prog 115 #[.int .i64 k] w fun e w' => e = .returned (.bool (exB k)) ∧ w' = w := by
  unfold exB
  by_cases h1 : k = 20
  · subst h1
    go_enter Tryz.func115, Tryz.ntmps115
    go_wp2
    go_ret
    exact ⟨rfl, rfl⟩
  have h1b : (k == 20) = false := by simpa using h1
  by_cases h2 : 30 ≤ k
  · by_cases h3 : k ≤ 46
    · by_cases h4 : k = 36
      · subst h4
        go_enter Tryz.func115, Tryz.ntmps115
        go_wp2
        go_ret
        exact ⟨rfl, rfl⟩
      · have h4b : (k == 36) = false := by simpa using h4
        have h4c : (k != 36) = true := by simpa using h4
        go_enter Tryz.func115, Tryz.ntmps115
        go_wp2
        go_ret
        exact ⟨ret_bool (by simp [h1, h2, h3, h4]), rfl⟩
    · go_enter Tryz.func115, Tryz.ntmps115
      go_wp2
      go_ret
      exact ⟨ret_bool (by rw [decide_eq_false (show ¬ k ≤ 46 by omega)]; rfl), rfl⟩
  · go_enter Tryz.func115, Tryz.ntmps115
    go_wp2
    go_ret
    exact ⟨ret_bool (by rw [decide_eq_false (show ¬ 30 ≤ k by omega)]; rfl), rfl⟩
/-- Whether a kind is one of a class. -/
def isB (k : Int) (c : Nat) : Bool :=
  if c = 84 then tyB k else if c = 83 then stB k else if c = 69 then exB k else if c = 80 then paB k else
  if c = 66 then decide (k = 20) else if c = 73 then (decide (k = 2) || (decide (k = 3) || decide (k = 4))) else
  if c = 70 then decide (k = 5) else if c = 86 then decide (k = 6) else if c = 77 then decide (k = 7) else
  if c = 65 then decide (k = 47) else if c = 74 then decide (k = 36) else (decide (k = 20) || decide (k = 45))
theorem deq (a b : Int) : decide (a = b) = (a == b) := by
  by_cases h : a = b
  · simp [h]
  · simp [h]
set_option maxHeartbeats 4000000 in
theorem is102 (k : Int) (c : Nat) (w : World) : Calls Tryz.prog 102 #[.int .i64 k, .int .u8 c] w fun e w' => e = .returned (.bool (isB k c)) ∧ w' = w := by
  have HT : Hid (∀ W, Calls Tryz.prog 39 #[.int .i64 k] W fun e w' => e = .returned (.bool (tyB k)) ∧ w' = W) := fun W => type39 k W
  have HS : Hid (∀ W, Calls Tryz.prog 51 #[.int .i64 k] W fun e w' => e = .returned (.bool (stB k)) ∧ w' = W) := fun W => stmt51 k W
  have HP : Hid (∀ W, Calls Tryz.prog 98 #[.int .i64 k] W fun e w' => e = .returned (.bool (paB k)) ∧ w' = W) := fun W => patt98 k W
  have HE : Hid (∀ W, Calls Tryz.prog 115 #[.int .i64 k] W fun e w' => e = .returned (.bool (exB k)) ∧ w' = W) := fun W => expr115 k W
  unfold isB
  generalize tyB k = bt at *
  generalize stB k = bs at *
  generalize paB k = bp at *
  generalize exB k = be at *
  simp only [deq]
  by_cases h84 : c = 84
  · subst h84
    simp only [Nat.reduceEqDiff, if_true, if_false]
    go_enter Tryz.func102, Tryz.ntmps102
    go_wp2_with (go_at_call 39; refine (HT.out _).mono ?_; rintro e w' ⟨rfl, rfl⟩)
    go_ret
    exact ⟨rfl, rfl⟩
  rw [if_neg h84]
  have e84 : ((c : Int) == 84) = false := by rw [beq_eq_false_iff_ne]; omega
  by_cases h83 : c = 83
  · subst h83
    simp only [Nat.reduceEqDiff, if_true, if_false]
    go_enter Tryz.func102, Tryz.ntmps102
    go_wp2_with (go_at_call 51; refine (HS.out _).mono ?_; rintro e w' ⟨rfl, rfl⟩)
    go_ret
    exact ⟨rfl, rfl⟩
  rw [if_neg h83]
  have e83 : ((c : Int) == 83) = false := by rw [beq_eq_false_iff_ne]; omega
  by_cases h69 : c = 69
  · subst h69
    simp only [Nat.reduceEqDiff, if_true, if_false]
    go_enter Tryz.func102, Tryz.ntmps102
    go_wp2_with (go_at_call 115; refine (HE.out _).mono ?_; rintro e w' ⟨rfl, rfl⟩)
    go_ret
    exact ⟨rfl, rfl⟩
  rw [if_neg h69]
  have e69 : ((c : Int) == 69) = false := by rw [beq_eq_false_iff_ne]; omega
  by_cases h80 : c = 80
  · subst h80
    simp only [Nat.reduceEqDiff, if_true, if_false]
    go_enter Tryz.func102, Tryz.ntmps102
    go_wp2_with (go_at_call 98; refine (HP.out _).mono ?_; rintro e w' ⟨rfl, rfl⟩)
    go_ret
    exact ⟨rfl, rfl⟩
  rw [if_neg h80]
  have e80 : ((c : Int) == 80) = false := by rw [beq_eq_false_iff_ne]; omega
  by_cases h66 : c = 66
  · subst h66
    simp only [Nat.reduceEqDiff, if_true, if_false]
    go_enter Tryz.func102, Tryz.ntmps102
    go_wp2
    all_goals go_ret
    all_goals exact ⟨ret_bool (by simp_all), rfl⟩
  rw [if_neg h66]
  have e66 : ((c : Int) == 66) = false := by rw [beq_eq_false_iff_ne]; omega
  by_cases h73 : c = 73
  · subst h73
    simp only [Nat.reduceEqDiff, if_true, if_false]
    go_enter Tryz.func102, Tryz.ntmps102
    go_wp2
    all_goals go_ret
    all_goals exact ⟨ret_bool (by first | (rw [Bool.or_assoc]; done) | (simp_all; done)), rfl⟩
  rw [if_neg h73]
  have e73 : ((c : Int) == 73) = false := by rw [beq_eq_false_iff_ne]; omega
  by_cases h70 : c = 70
  · subst h70
    simp only [Nat.reduceEqDiff, if_true, if_false]
    go_enter Tryz.func102, Tryz.ntmps102
    go_wp2
    all_goals go_ret
    all_goals exact ⟨ret_bool (by simp_all), rfl⟩
  rw [if_neg h70]
  have e70 : ((c : Int) == 70) = false := by rw [beq_eq_false_iff_ne]; omega
  by_cases h86 : c = 86
  · subst h86
    simp only [Nat.reduceEqDiff, if_true, if_false]
    go_enter Tryz.func102, Tryz.ntmps102
    go_wp2
    all_goals go_ret
    all_goals exact ⟨ret_bool (by simp_all), rfl⟩
  rw [if_neg h86]
  have e86 : ((c : Int) == 86) = false := by rw [beq_eq_false_iff_ne]; omega
  by_cases h77 : c = 77
  · subst h77
    simp only [Nat.reduceEqDiff, if_true, if_false]
    go_enter Tryz.func102, Tryz.ntmps102
    go_wp2
    all_goals go_ret
    all_goals exact ⟨ret_bool (by simp_all), rfl⟩
  rw [if_neg h77]
  have e77 : ((c : Int) == 77) = false := by rw [beq_eq_false_iff_ne]; omega
  by_cases h65 : c = 65
  · subst h65
    simp only [Nat.reduceEqDiff, if_true, if_false]
    go_enter Tryz.func102, Tryz.ntmps102
    go_wp2
    all_goals go_ret
    all_goals exact ⟨ret_bool (by simp_all), rfl⟩
  rw [if_neg h65]
  have e65 : ((c : Int) == 65) = false := by rw [beq_eq_false_iff_ne]; omega
  by_cases h74 : c = 74
  · subst h74
    simp only [if_true]
    go_enter Tryz.func102, Tryz.ntmps102
    go_wp2
    all_goals go_ret
    all_goals exact ⟨ret_bool (by simp_all), rfl⟩
  rw [if_neg h74]
  have e74 : ((c : Int) == 74) = false := by rw [beq_eq_false_iff_ne]; omega
  clear h84 h83 h69 h80 h66 h73 h70 h86 h77 h65 h74
  go_enter Tryz.func102, Tryz.ntmps102
  go_wp2
  all_goals go_ret
  all_goals exact ⟨ret_bool (by simp_all), rfl⟩
end Go.Proofs.YtkkmeogehapjoaaGreatDoor
