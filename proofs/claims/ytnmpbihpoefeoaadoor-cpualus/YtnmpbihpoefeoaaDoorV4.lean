/- Operations of two numbers: the document's of 64 bits. -/
import Derived.Test.YtnmpbihpoefeoaaDoorV3
namespace Go.Proofs.YtnmpbihpoefeoaaDoor
open Go.RowKit Go.Shelf
theorem A_D (op a b : Int) (h : 54 ≤ op) : A64 op a b = D op a b := by
  unfold A64
  repeat rw [if_neg (by omega)]
theorem hi_range {a b : Int} (a0 : 0 ≤ a) (a1 : a < 18446744073709551616) (b0 : 0 ≤ b) (b1 : b < 18446744073709551616) : 0 ≤ hi a b ∧ hi a b < 18446744073709551616 := by
  have t : a * b ≤ 18446744073709551615 * 18446744073709551615 := Int.mul_le_mul (by omega) (by omega) b0 (by omega)
  have u : 0 ≤ a * b := Int.mul_nonneg a0 b0
  unfold hi
  omega
theorem wrap_same {x : Int} (h : 0 ≤ x ∧ x < 18446744073709551616) : IntKind.u64.wrap x = x := by rw [wrapU]; omega
theorem high39' (a b : Int) (a0 : 0 ≤ a) (a1 : a < 18446744073709551616) (b0 : 0 ≤ b) (b1 : b < 18446744073709551616) (w : World) : Calls Tryd.prog 39 #[.int .u64 a, .int .u64 b] w fun e w' => e = .returned (.int .u64 (hi a b)) ∧ w' = w := high39 a b a0 a1 b0 b1 w
theorem high48' (a b : Int) (a0 : 0 ≤ a) (a1 : a < 18446744073709551616) (b0 : 0 ≤ b) (b1 : b < 18446744073709551616) (w : World) : Calls Tryd.prog 48 #[.int .u64 a, .int .u64 b] w fun e w' => e = .returned (.int .u64 (hi a b)) ∧ w' = w := high48 a b a0 a1 b0 b1 w
set_option maxRecDepth 20000 in
set_option maxHeartbeats 4000000 in
theorem alu24_0 (op a b : Int) (h : op = 35 ∨ op = 36 ∨ op = 37 ∨ op = 38 ∨ op = 39 ∨ op = 40) (_a0 : 0 ≤ a) (_a1 : a < 18446744073709551616) (b0 : 0 ≤ b) (b1 : b < 18446744073709551616) (w : World) : Calls Tryd.prog 24 #[.int .i64 op, .int .u64 a, .int .u64 b] w fun e w' => e = .returned (.int .u64 (A64 op a b)) ∧ w' = w := by
  have n41 : (op == 41) = false := by rcases h with rfl | rfl | rfl | rfl | rfl | rfl <;> rfl
  have n42 : (op == 42) = false := by rcases h with rfl | rfl | rfl | rfl | rfl | rfl <;> rfl
  have n43 : (op == 43) = false := by rcases h with rfl | rfl | rfl | rfl | rfl | rfl <;> rfl
  have n44 : (op == 44) = false := by rcases h with rfl | rfl | rfl | rfl | rfl | rfl <;> rfl
  have n50 : (op == 50) = false := by rcases h with rfl | rfl | rfl | rfl | rfl | rfl <;> rfl
  have n53 : (op == 53) = false := by rcases h with rfl | rfl | rfl | rfl | rfl | rfl <;> rfl
  have n52 : (op == 52) = false := by rcases h with rfl | rfl | rfl | rfl | rfl | rfl <;> rfl
  have n51 : (op == 51) = false := by rcases h with rfl | rfl | rfl | rfl | rfl | rfl <;> rfl
  have hl := lo6 b0 b1
  have HO : Hid (op = 35 ∨ op = 36 ∨ op = 37 ∨ op = 38 ∨ op = 39 ∨ op = 40) := h
  clear h
  go_enter Tryd.func24, Tryd.ntmps24
  go_wp2_with (first | (go_at_call 38; refine (truth38' _ _).mono ?_; rintro e w' ⟨rfl, rfl⟩) | (go_at_call 40; exfalso; rcases HO.out with rfl | rfl | rfl | rfl | rfl | rfl <;> first | exact beq_no ‹((35 : Int) == 35) = false› | exact beq_no ‹((36 : Int) == 36) = false› | exact beq_no ‹((37 : Int) == 37) = false› | exact beq_no ‹((38 : Int) == 38) = false› | exact beq_no ‹((39 : Int) == 39) = false› | exact beq_no ‹((40 : Int) == 40) = false›) | fail)
  all_goals go_ret
  all_goals (have hh := eq_of_beq ‹(op == _) = true›; subst hh; first | rw [A_35] | rw [A_36] | rw [A_37] | rw [A_38] | rw [A_39] | rw [A_40])
  all_goals exact ⟨rfl, rfl⟩
set_option maxRecDepth 20000 in
set_option maxHeartbeats 4000000 in
theorem alu24_1 (op a b : Int) (h : op = 41 ∨ op = 42 ∨ op = 43 ∨ op = 44 ∨ op = 50 ∨ op = 53) (a0 : 0 ≤ a) (a1 : a < 18446744073709551616) (b0 : 0 ≤ b) (b1 : b < 18446744073709551616) (w : World) : Calls Tryd.prog 24 #[.int .i64 op, .int .u64 a, .int .u64 b] w fun e w' => e = .returned (.int .u64 (A64 op a b)) ∧ w' = w := by
  have n35 : (op == 35) = false := by rcases h with rfl | rfl | rfl | rfl | rfl | rfl <;> rfl
  have n36 : (op == 36) = false := by rcases h with rfl | rfl | rfl | rfl | rfl | rfl <;> rfl
  have n37 : (op == 37) = false := by rcases h with rfl | rfl | rfl | rfl | rfl | rfl <;> rfl
  have n38 : (op == 38) = false := by rcases h with rfl | rfl | rfl | rfl | rfl | rfl <;> rfl
  have n39 : (op == 39) = false := by rcases h with rfl | rfl | rfl | rfl | rfl | rfl <;> rfl
  have n40 : (op == 40) = false := by rcases h with rfl | rfl | rfl | rfl | rfl | rfl <;> rfl
  have n52 : (op == 52) = false := by rcases h with rfl | rfl | rfl | rfl | rfl | rfl <;> rfl
  have n51 : (op == 51) = false := by rcases h with rfl | rfl | rfl | rfl | rfl | rfl <;> rfl
  have hl := lo6 b0 b1
  have HO : Hid (op = 41 ∨ op = 42 ∨ op = 43 ∨ op = 44 ∨ op = 50 ∨ op = 53) := h
  clear h
  go_enter Tryd.func24, Tryd.ntmps24
  go_wp2_with (first | (go_at_call 38; refine (truth38' _ _).mono ?_; rintro e w' ⟨rfl, rfl⟩) | (go_at_call 39; refine (high39' a b a0 a1 b0 b1 _).mono ?_; rintro e w' ⟨rfl, rfl⟩) | (go_at_call 40; exfalso; rcases HO.out with rfl | rfl | rfl | rfl | rfl | rfl <;> first | exact beq_no ‹((41 : Int) == 41) = false› | exact beq_no ‹((42 : Int) == 42) = false› | exact beq_no ‹((43 : Int) == 43) = false› | exact beq_no ‹((44 : Int) == 44) = false› | exact beq_no ‹((50 : Int) == 50) = false› | exact beq_no ‹((53 : Int) == 53) = false›) | fail)
  all_goals go_ret
  all_goals (have hh := eq_of_beq ‹(op == _) = true›; subst hh; first | rw [A_41] | rw [A_42] | rw [A_43] | rw [A_44] | rw [A_50] | rw [A_53])
  all_goals exact ⟨rfl, rfl⟩
set_option maxRecDepth 20000 in
set_option maxHeartbeats 4000000 in
theorem alu24_d (op a b : Int) (h1 : 54 ≤ op) (h2 : op ≤ 57) (a0 : 0 ≤ a) (a1 : a < 18446744073709551616) (b0 : 0 ≤ b) (b1 : b < 18446744073709551616) (w : World) : Calls Tryd.prog 24 #[.int .i64 op, .int .u64 a, .int .u64 b] w fun e w' => e = .returned (.int .u64 (A64 op a b)) ∧ w' = w := by
  have n35 : (op == 35) = false := by simp; omega
  have n36 : (op == 36) = false := by simp; omega
  have n37 : (op == 37) = false := by simp; omega
  have n38 : (op == 38) = false := by simp; omega
  have n39 : (op == 39) = false := by simp; omega
  have n40 : (op == 40) = false := by simp; omega
  have n41 : (op == 41) = false := by simp; omega
  have n42 : (op == 42) = false := by simp; omega
  have n43 : (op == 43) = false := by simp; omega
  have n44 : (op == 44) = false := by simp; omega
  have n50 : (op == 50) = false := by simp; omega
  have n53 : (op == 53) = false := by simp; omega
  have n52 : (op == 52) = false := by simp; omega
  have n51 : (op == 51) = false := by simp; omega
  rw [A_D op a b h1]
  have HD : Hid (∀ w, Calls Tryd.prog 40 #[.int .i64 op, .int .u64 a, .int .u64 b] w fun e w' => e = .returned (.int .u64 (D op a b)) ∧ w' = w) := div40 op a b h1 h2 a0 a1 b0 b1
  go_enter Tryd.func24, Tryd.ntmps24
  go_wp2_with ((go_at_call 40; refine (HD.out _).mono ?_; rintro e w' ⟨rfl, rfl⟩))
  go_ret
  exact ⟨rfl, rfl⟩
set_option maxRecDepth 20000 in
set_option maxHeartbeats 4000000 in
theorem alu24_52 (a b : Int) (a0 : 0 ≤ a) (a1 : a < 18446744073709551616) (b0 : 0 ≤ b) (b1 : b < 18446744073709551616) (w : World) : Calls Tryd.prog 24 #[.int .i64 52, .int .u64 a, .int .u64 b] w fun e w' => e = .returned (.int .u64 (A64 52 a b)) ∧ w' = w := by
  have hr := hi_range a0 a1 b0 b1
  rw [A_52]
  unfold neg
  by_cases h : wrap64 a < 0
  · rw [if_pos h]
    go_enter Tryd.func24, Tryd.ntmps24
    go_wp2_with ((go_at_call 39; refine (high39' a b a0 a1 b0 b1 _).mono ?_; rintro e w' ⟨rfl, rfl⟩))
    go_ret
    exact ⟨rfl, rfl⟩
  · rw [if_neg h, Int.sub_zero, wrap_same hr]
    go_enter Tryd.func24, Tryd.ntmps24
    go_wp2_with ((go_at_call 39; refine (high39' a b a0 a1 b0 b1 _).mono ?_; rintro e w' ⟨rfl, rfl⟩))
    go_ret
    exact ⟨rfl, rfl⟩
set_option maxRecDepth 20000 in
set_option maxHeartbeats 4000000 in
theorem alu24_51 (a b : Int) (a0 : 0 ≤ a) (a1 : a < 18446744073709551616) (b0 : 0 ≤ b) (b1 : b < 18446744073709551616) (w : World) : Calls Tryd.prog 24 #[.int .i64 51, .int .u64 a, .int .u64 b] w fun e w' => e = .returned (.int .u64 (A64 51 a b)) ∧ w' = w := by
  have hr := hi_range a0 a1 b0 b1
  rw [A_51]
  unfold neg
  by_cases h : wrap64 a < 0
  · by_cases g : wrap64 b < 0
    · rw [if_pos h, if_pos g]
      go_enter Tryd.func24, Tryd.ntmps24
      go_wp2_with ((go_at_call 39; refine (high39' a b a0 a1 b0 b1 _).mono ?_; rintro e w' ⟨rfl, rfl⟩))
      go_ret
      exact ⟨rfl, rfl⟩
    · rw [if_pos h, if_neg g, Int.sub_zero, wrap_same (x := IntKind.u64.wrap (hi a b - b)) (by rw [wrapU]; omega)]
      go_enter Tryd.func24, Tryd.ntmps24
      go_wp2_with ((go_at_call 39; refine (high39' a b a0 a1 b0 b1 _).mono ?_; rintro e w' ⟨rfl, rfl⟩))
      go_ret
      exact ⟨rfl, rfl⟩
  · by_cases g : wrap64 b < 0
    · rw [if_neg h, if_pos g, Int.sub_zero, wrap_same hr]
      go_enter Tryd.func24, Tryd.ntmps24
      go_wp2_with ((go_at_call 39; refine (high39' a b a0 a1 b0 b1 _).mono ?_; rintro e w' ⟨rfl, rfl⟩))
      go_ret
      exact ⟨rfl, rfl⟩
    · rw [if_neg h, if_neg g, Int.sub_zero, Int.sub_zero, wrap_same hr, wrap_same hr]
      go_enter Tryd.func24, Tryd.ntmps24
      go_wp2_with ((go_at_call 39; refine (high39' a b a0 a1 b0 b1 _).mono ?_; rintro e w' ⟨rfl, rfl⟩))
      go_ret
      exact ⟨rfl, rfl⟩
/-- An operation of 64 bits? -/
def isW (op : Int) : Prop := (35 ≤ op ∧ op ≤ 44) ∨ (50 ≤ op ∧ op ≤ 57)
theorem alu24 (op a b : Int) (h : isW op) (a0 : 0 ≤ a) (a1 : a < 18446744073709551616) (b0 : 0 ≤ b) (b1 : b < 18446744073709551616) (w : World) : Calls Tryd.prog 24 #[.int .i64 op, .int .u64 a, .int .u64 b] w fun e w' => e = .returned (.int .u64 (A64 op a b)) ∧ w' = w := by
  unfold isW at h
  by_cases c1 : op ≤ 40
  · exact alu24_0 op a b (by omega) a0 a1 b0 b1 w
  by_cases c2 : 54 ≤ op
  · exact alu24_d op a b c2 (by omega) a0 a1 b0 b1 w
  by_cases c3 : op = 52
  · subst c3; exact alu24_52 a b a0 a1 b0 b1 w
  by_cases c4 : op = 51
  · subst c4; exact alu24_51 a b a0 a1 b0 b1 w
  exact alu24_1 op a b (by omega) a0 a1 b0 b1 w
end Go.Proofs.YtnmpbihpoefeoaaDoor
