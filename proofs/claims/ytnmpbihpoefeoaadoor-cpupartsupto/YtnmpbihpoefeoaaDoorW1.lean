/- Operations of two numbers: sums, shifts, comparisons, bits. -/
import Derived.Test.YtnmpbihpoefeoaaDoorVB
namespace Go.Proofs.YtnmpbihpoefeoaaDoor
open Go.RowKit Go.Shelf
set_option maxRecDepth 20000 in
set_option maxHeartbeats 2000000 in
theorem sum20s_31 (op a b : Int) (h : op = 31) (_a0 : 0 ≤ a) (_a1 : a < 18446744073709551616) (_b0 : 0 ≤ b) (_b1 : b < 18446744073709551616) (w : World) : Calls Tryd.prog 20 #[.int .i64 op, .int .u64 a, .int .u64 b] w fun e w' => e = .returned (.tuple #[.int .u64 (Pv 31 a b), .bool (isN32 31)]) ∧ w' = w := by
  rw [Pv_31, N_31]
  have y31 : (op == 31) = true := by subst h; rfl
  clear h
  go_enter Tryd.func20, Tryd.ntmps20
  apply seq_to (W := w)
  · go_wp2_with fail
    exact At.mk
  apply seq_to (W := w)
  · apply seq_to (W := w)
    · go_wp2_with fail
      exact At.mk
    apply blk_catch
    apply seq_exit; apply blk_pass (by decide)
    apply seq_exit; apply blk_pass (by decide)
    apply seq_exit; apply blk_pass (by decide)
    apply seq_exit; apply blk_pass (by decide)
    apply seq_exit; apply blk_pass (by decide)
    apply seq_exit; apply blk_pass (by decide)
    apply seq_exit; apply blk_pass (by decide)
    apply seq_exit; apply blk_pass (by decide)
    apply seq_exit; apply blk_pass (by decide)
    apply seq_exit; apply blk_pass (by decide)
    apply seq_exit; apply blk_pass (by decide)
    apply seq_exit; apply blk_pass (by decide)
    apply seq_exit; apply blk_pass (by decide)
    apply seq_exit; apply blk_pass (by decide)
    apply seq_to (W := w)
    · apply blk_norm; apply seq_to (W := w)
      · skip
        apply blk_catch
        go_wp2_with fail
        exact At.mk
      go_wp2_with fail
      exact At.mk
    go_wp2_with fail
    exact At.mk
  go_wp2_with fail
  go_ret2
  exact ⟨rfl, rfl⟩
theorem sum20_31 (a b : Int) (a0 : 0 ≤ a) (a1 : a < 18446744073709551616) (b0 : 0 ≤ b) (b1 : b < 18446744073709551616) (w : World) : Calls Tryd.prog 20 #[.int .i64 31, .int .u64 a, .int .u64 b] w fun e w' => e = .returned (.tuple #[.int .u64 (Pv 31 a b), .bool (isN32 31)]) ∧ w' = w := sum20s_31 31 a b rfl a0 a1 b0 b1 w
set_option maxRecDepth 20000 in
set_option maxHeartbeats 2000000 in
theorem sum20s_45 (op a b : Int) (h : op = 45) (_a0 : 0 ≤ a) (_a1 : a < 18446744073709551616) (_b0 : 0 ≤ b) (_b1 : b < 18446744073709551616) (w : World) : Calls Tryd.prog 20 #[.int .i64 op, .int .u64 a, .int .u64 b] w fun e w' => e = .returned (.tuple #[.int .u64 (Pv 45 a b), .bool (isN32 45)]) ∧ w' = w := by
  rw [Pv_45, N_45]
  have n31 : (op == 31) = false := by subst h; rfl
  have y45 : (op == 45) = true := by subst h; rfl
  clear h
  go_enter Tryd.func20, Tryd.ntmps20
  apply seq_to (W := w)
  · go_wp2_with fail
    exact At.mk
  apply seq_to (W := w)
  · apply seq_to (W := w)
    · go_wp2_with fail
      exact At.mk
    apply blk_catch
    apply seq_exit; apply blk_pass (by decide)
    apply seq_exit; apply blk_pass (by decide)
    apply seq_exit; apply blk_pass (by decide)
    apply seq_exit; apply blk_pass (by decide)
    apply seq_exit; apply blk_pass (by decide)
    apply seq_exit; apply blk_pass (by decide)
    apply seq_exit; apply blk_pass (by decide)
    apply seq_exit; apply blk_pass (by decide)
    apply seq_exit; apply blk_pass (by decide)
    apply seq_exit; apply blk_pass (by decide)
    apply seq_exit; apply blk_pass (by decide)
    apply seq_exit; apply blk_pass (by decide)
    apply seq_exit; apply blk_pass (by decide)
    apply seq_exit; apply blk_pass (by decide)
    apply seq_to (W := w)
    · apply blk_norm; apply seq_to (W := w)
      · skip
        apply blk_catch
        go_wp2_with fail
        exact At.mk
      go_wp2_with fail
      exact At.mk
    go_wp2_with fail
    exact At.mk
  go_wp2_with fail
  go_ret2
  exact ⟨rfl, rfl⟩
theorem sum20_45 (a b : Int) (a0 : 0 ≤ a) (a1 : a < 18446744073709551616) (b0 : 0 ≤ b) (b1 : b < 18446744073709551616) (w : World) : Calls Tryd.prog 20 #[.int .i64 45, .int .u64 a, .int .u64 b] w fun e w' => e = .returned (.tuple #[.int .u64 (Pv 45 a b), .bool (isN32 45)]) ∧ w' = w := sum20s_45 45 a b rfl a0 a1 b0 b1 w
set_option maxRecDepth 20000 in
set_option maxHeartbeats 2000000 in
theorem sum20s_22 (op a b : Int) (h : op = 22) (_a0 : 0 ≤ a) (_a1 : a < 18446744073709551616) (_b0 : 0 ≤ b) (_b1 : b < 18446744073709551616) (w : World) : Calls Tryd.prog 20 #[.int .i64 op, .int .u64 a, .int .u64 b] w fun e w' => e = .returned (.tuple #[.int .u64 (Pv 22 a b), .bool (isN32 22)]) ∧ w' = w := by
  rw [Pv_22, N_22]
  have n31 : (op == 31) = false := by subst h; rfl
  have n45 : (op == 45) = false := by subst h; rfl
  have y22 : (op == 22) = true := by subst h; rfl
  clear h
  go_enter Tryd.func20, Tryd.ntmps20
  apply seq_to (W := w)
  · go_wp2_with fail
    exact At.mk
  apply seq_to (W := w)
  · apply seq_to (W := w)
    · go_wp2_with fail
      exact At.mk
    apply blk_catch
    apply seq_exit; apply blk_pass (by decide)
    apply seq_exit; apply blk_pass (by decide)
    apply seq_exit; apply blk_pass (by decide)
    apply seq_exit; apply blk_pass (by decide)
    apply seq_exit; apply blk_pass (by decide)
    apply seq_exit; apply blk_pass (by decide)
    apply seq_exit; apply blk_pass (by decide)
    apply seq_exit; apply blk_pass (by decide)
    apply seq_exit; apply blk_pass (by decide)
    apply seq_exit; apply blk_pass (by decide)
    apply seq_exit; apply blk_pass (by decide)
    apply seq_exit; apply blk_pass (by decide)
    apply seq_exit; apply blk_pass (by decide)
    apply seq_exit; apply blk_pass (by decide)
    apply seq_to (W := w)
    · skip
      apply blk_catch
      apply seq_exit; apply blk_pass (by decide)
      go_wp2_with fail
      exact At.mk
    go_wp2_with fail
    exact At.mk
  go_wp2_with fail
  go_ret2
  exact ⟨rfl, rfl⟩
theorem sum20_22 (a b : Int) (a0 : 0 ≤ a) (a1 : a < 18446744073709551616) (b0 : 0 ≤ b) (b1 : b < 18446744073709551616) (w : World) : Calls Tryd.prog 20 #[.int .i64 22, .int .u64 a, .int .u64 b] w fun e w' => e = .returned (.tuple #[.int .u64 (Pv 22 a b), .bool (isN32 22)]) ∧ w' = w := sum20s_22 22 a b rfl a0 a1 b0 b1 w
set_option maxRecDepth 20000 in
set_option maxHeartbeats 2000000 in
theorem sum20s_35 (op a b : Int) (h : op = 35) (_a0 : 0 ≤ a) (_a1 : a < 18446744073709551616) (_b0 : 0 ≤ b) (_b1 : b < 18446744073709551616) (w : World) : Calls Tryd.prog 20 #[.int .i64 op, .int .u64 a, .int .u64 b] w fun e w' => e = .returned (.tuple #[.int .u64 (Pv 35 a b), .bool (isN32 35)]) ∧ w' = w := by
  rw [Pv_35, N_35]
  have n31 : (op == 31) = false := by subst h; rfl
  have n45 : (op == 45) = false := by subst h; rfl
  have n22 : (op == 22) = false := by subst h; rfl
  have y35 : (op == 35) = true := by subst h; rfl
  clear h
  go_enter Tryd.func20, Tryd.ntmps20
  apply seq_to (W := w)
  · go_wp2_with fail
    exact At.mk
  apply seq_to (W := w)
  · apply seq_to (W := w)
    · go_wp2_with fail
      exact At.mk
    apply blk_catch
    apply seq_exit; apply blk_pass (by decide)
    apply seq_exit; apply blk_pass (by decide)
    apply seq_exit; apply blk_pass (by decide)
    apply seq_exit; apply blk_pass (by decide)
    apply seq_exit; apply blk_pass (by decide)
    apply seq_exit; apply blk_pass (by decide)
    apply seq_exit; apply blk_pass (by decide)
    apply seq_exit; apply blk_pass (by decide)
    apply seq_exit; apply blk_pass (by decide)
    apply seq_exit; apply blk_pass (by decide)
    apply seq_exit; apply blk_pass (by decide)
    apply seq_exit; apply blk_pass (by decide)
    apply seq_exit; apply blk_pass (by decide)
    apply seq_exit; apply blk_pass (by decide)
    apply seq_to (W := w)
    · skip
      apply blk_catch
      apply seq_exit; apply blk_pass (by decide)
      go_wp2_with fail
      exact At.mk
    go_wp2_with fail
    exact At.mk
  go_wp2_with fail
  go_ret2
  exact ⟨rfl, rfl⟩
theorem sum20_35 (a b : Int) (a0 : 0 ≤ a) (a1 : a < 18446744073709551616) (b0 : 0 ≤ b) (b1 : b < 18446744073709551616) (w : World) : Calls Tryd.prog 20 #[.int .i64 35, .int .u64 a, .int .u64 b] w fun e w' => e = .returned (.tuple #[.int .u64 (Pv 35 a b), .bool (isN32 35)]) ∧ w' = w := sum20s_35 35 a b rfl a0 a1 b0 b1 w
set_option maxRecDepth 20000 in
set_option maxHeartbeats 2000000 in
theorem sum20s_46 (op a b : Int) (h : op = 46) (_a0 : 0 ≤ a) (_a1 : a < 18446744073709551616) (_b0 : 0 ≤ b) (_b1 : b < 18446744073709551616) (w : World) : Calls Tryd.prog 20 #[.int .i64 op, .int .u64 a, .int .u64 b] w fun e w' => e = .returned (.tuple #[.int .u64 (Pv 46 a b), .bool (isN32 46)]) ∧ w' = w := by
  rw [Pv_46, N_46]
  have n31 : (op == 31) = false := by subst h; rfl
  have n45 : (op == 45) = false := by subst h; rfl
  have n22 : (op == 22) = false := by subst h; rfl
  have n35 : (op == 35) = false := by subst h; rfl
  have y46 : (op == 46) = true := by subst h; rfl
  clear h
  go_enter Tryd.func20, Tryd.ntmps20
  apply seq_to (W := w)
  · go_wp2_with fail
    exact At.mk
  apply seq_to (W := w)
  · apply seq_to (W := w)
    · go_wp2_with fail
      exact At.mk
    apply blk_catch
    apply seq_exit; apply blk_pass (by decide)
    apply seq_exit; apply blk_pass (by decide)
    apply seq_exit; apply blk_pass (by decide)
    apply seq_exit; apply blk_pass (by decide)
    apply seq_exit; apply blk_pass (by decide)
    apply seq_exit; apply blk_pass (by decide)
    apply seq_exit; apply blk_pass (by decide)
    apply seq_exit; apply blk_pass (by decide)
    apply seq_exit; apply blk_pass (by decide)
    apply seq_exit; apply blk_pass (by decide)
    apply seq_exit; apply blk_pass (by decide)
    apply seq_exit; apply blk_pass (by decide)
    apply seq_to (W := w)
    · apply blk_norm; apply seq_to (W := w)
      · skip
        apply blk_catch
        apply seq_exit; apply blk_pass (by decide)
        apply seq_exit; apply blk_pass (by decide)
        go_wp2_with fail
        exact At.mk
      go_wp2_with fail
      exact At.mk
    go_wp2_with fail
    exact At.mk
  go_wp2_with fail
  go_ret2
  exact ⟨rfl, rfl⟩
theorem sum20_46 (a b : Int) (a0 : 0 ≤ a) (a1 : a < 18446744073709551616) (b0 : 0 ≤ b) (b1 : b < 18446744073709551616) (w : World) : Calls Tryd.prog 20 #[.int .i64 46, .int .u64 a, .int .u64 b] w fun e w' => e = .returned (.tuple #[.int .u64 (Pv 46 a b), .bool (isN32 46)]) ∧ w' = w := sum20s_46 46 a b rfl a0 a1 b0 b1 w
set_option maxRecDepth 20000 in
set_option maxHeartbeats 2000000 in
theorem sum20s_36 (op a b : Int) (h : op = 36) (_a0 : 0 ≤ a) (_a1 : a < 18446744073709551616) (_b0 : 0 ≤ b) (_b1 : b < 18446744073709551616) (w : World) : Calls Tryd.prog 20 #[.int .i64 op, .int .u64 a, .int .u64 b] w fun e w' => e = .returned (.tuple #[.int .u64 (Pv 36 a b), .bool (isN32 36)]) ∧ w' = w := by
  rw [Pv_36, N_36]
  have n31 : (op == 31) = false := by subst h; rfl
  have n45 : (op == 45) = false := by subst h; rfl
  have n22 : (op == 22) = false := by subst h; rfl
  have n35 : (op == 35) = false := by subst h; rfl
  have n46 : (op == 46) = false := by subst h; rfl
  have y36 : (op == 36) = true := by subst h; rfl
  clear h
  go_enter Tryd.func20, Tryd.ntmps20
  apply seq_to (W := w)
  · go_wp2_with fail
    exact At.mk
  apply seq_to (W := w)
  · apply seq_to (W := w)
    · go_wp2_with fail
      exact At.mk
    apply blk_catch
    apply seq_exit; apply blk_pass (by decide)
    apply seq_exit; apply blk_pass (by decide)
    apply seq_exit; apply blk_pass (by decide)
    apply seq_exit; apply blk_pass (by decide)
    apply seq_exit; apply blk_pass (by decide)
    apply seq_exit; apply blk_pass (by decide)
    apply seq_exit; apply blk_pass (by decide)
    apply seq_exit; apply blk_pass (by decide)
    apply seq_exit; apply blk_pass (by decide)
    apply seq_exit; apply blk_pass (by decide)
    apply seq_exit; apply blk_pass (by decide)
    apply seq_exit; apply blk_pass (by decide)
    apply seq_to (W := w)
    · skip
      apply blk_catch
      apply seq_exit; apply blk_pass (by decide)
      apply seq_exit; apply blk_pass (by decide)
      apply seq_exit; apply blk_pass (by decide)
      go_wp2_with fail
      exact At.mk
    go_wp2_with fail
    exact At.mk
  go_wp2_with fail
  go_ret2
  exact ⟨rfl, rfl⟩
theorem sum20_36 (a b : Int) (a0 : 0 ≤ a) (a1 : a < 18446744073709551616) (b0 : 0 ≤ b) (b1 : b < 18446744073709551616) (w : World) : Calls Tryd.prog 20 #[.int .i64 36, .int .u64 a, .int .u64 b] w fun e w' => e = .returned (.tuple #[.int .u64 (Pv 36 a b), .bool (isN32 36)]) ∧ w' = w := sum20s_36 36 a b rfl a0 a1 b0 b1 w
set_option maxRecDepth 20000 in
set_option maxHeartbeats 2000000 in
theorem sum20s_32 (op a b : Int) (h : op = 32) (_a0 : 0 ≤ a) (_a1 : a < 18446744073709551616) (_b0 : 0 ≤ b) (_b1 : b < 18446744073709551616) (w : World) : Calls Tryd.prog 20 #[.int .i64 op, .int .u64 a, .int .u64 b] w fun e w' => e = .returned (.tuple #[.int .u64 (Pv 32 a b), .bool (isN32 32)]) ∧ w' = w := by
  rw [Pv_32, N_32]
  have n31 : (op == 31) = false := by subst h; rfl
  have n45 : (op == 45) = false := by subst h; rfl
  have n22 : (op == 22) = false := by subst h; rfl
  have n35 : (op == 35) = false := by subst h; rfl
  have n46 : (op == 46) = false := by subst h; rfl
  have n36 : (op == 36) = false := by subst h; rfl
  have y32 : (op == 32) = true := by subst h; rfl
  clear h
  go_enter Tryd.func20, Tryd.ntmps20
  apply seq_to (W := w)
  · go_wp2_with fail
    exact At.mk
  apply seq_to (W := w)
  · apply seq_to (W := w)
    · go_wp2_with fail
      exact At.mk
    apply blk_catch
    apply seq_exit; apply blk_pass (by decide)
    apply seq_exit; apply blk_pass (by decide)
    apply seq_exit; apply blk_pass (by decide)
    apply seq_exit; apply blk_pass (by decide)
    apply seq_exit; apply blk_pass (by decide)
    apply seq_exit; apply blk_pass (by decide)
    apply seq_exit; apply blk_pass (by decide)
    apply seq_exit; apply blk_pass (by decide)
    apply seq_exit; apply blk_pass (by decide)
    apply seq_exit; apply blk_pass (by decide)
    apply seq_to (W := w)
    · apply blk_norm; apply seq_to (W := w)
      · skip
        apply blk_catch
        apply seq_exit; apply blk_pass (by decide)
        apply seq_exit; apply blk_pass (by decide)
        apply seq_exit; apply blk_pass (by decide)
        apply seq_exit; apply blk_pass (by decide)
        go_wp2_with fail
        exact At.mk
      go_wp2_with fail
      exact At.mk
    go_wp2_with fail
    exact At.mk
  go_wp2_with fail
  go_ret2
  exact ⟨rfl, rfl⟩
theorem sum20_32 (a b : Int) (a0 : 0 ≤ a) (a1 : a < 18446744073709551616) (b0 : 0 ≤ b) (b1 : b < 18446744073709551616) (w : World) : Calls Tryd.prog 20 #[.int .i64 32, .int .u64 a, .int .u64 b] w fun e w' => e = .returned (.tuple #[.int .u64 (Pv 32 a b), .bool (isN32 32)]) ∧ w' = w := sum20s_32 32 a b rfl a0 a1 b0 b1 w
set_option maxRecDepth 20000 in
set_option maxHeartbeats 2000000 in
theorem sum20s_47 (op a b : Int) (h : op = 47) (_a0 : 0 ≤ a) (_a1 : a < 18446744073709551616) (_b0 : 0 ≤ b) (_b1 : b < 18446744073709551616) (w : World) : Calls Tryd.prog 20 #[.int .i64 op, .int .u64 a, .int .u64 b] w fun e w' => e = .returned (.tuple #[.int .u64 (Pv 47 a b), .bool (isN32 47)]) ∧ w' = w := by
  rw [Pv_47, N_47]
  have n31 : (op == 31) = false := by subst h; rfl
  have n45 : (op == 45) = false := by subst h; rfl
  have n22 : (op == 22) = false := by subst h; rfl
  have n35 : (op == 35) = false := by subst h; rfl
  have n46 : (op == 46) = false := by subst h; rfl
  have n36 : (op == 36) = false := by subst h; rfl
  have n32 : (op == 32) = false := by subst h; rfl
  have y47 : (op == 47) = true := by subst h; rfl
  clear h
  go_enter Tryd.func20, Tryd.ntmps20
  apply seq_to (W := w)
  · go_wp2_with fail
    exact At.mk
  apply seq_to (W := w)
  · apply seq_to (W := w)
    · go_wp2_with fail
      exact At.mk
    apply blk_catch
    apply seq_exit; apply blk_pass (by decide)
    apply seq_exit; apply blk_pass (by decide)
    apply seq_exit; apply blk_pass (by decide)
    apply seq_exit; apply blk_pass (by decide)
    apply seq_exit; apply blk_pass (by decide)
    apply seq_exit; apply blk_pass (by decide)
    apply seq_exit; apply blk_pass (by decide)
    apply seq_exit; apply blk_pass (by decide)
    apply seq_exit; apply blk_pass (by decide)
    apply seq_exit; apply blk_pass (by decide)
    apply seq_to (W := w)
    · apply blk_norm; apply seq_to (W := w)
      · skip
        apply blk_catch
        apply seq_exit; apply blk_pass (by decide)
        apply seq_exit; apply blk_pass (by decide)
        apply seq_exit; apply blk_pass (by decide)
        apply seq_exit; apply blk_pass (by decide)
        go_wp2_with fail
        exact At.mk
      go_wp2_with fail
      exact At.mk
    go_wp2_with fail
    exact At.mk
  go_wp2_with fail
  go_ret2
  exact ⟨rfl, rfl⟩
theorem sum20_47 (a b : Int) (a0 : 0 ≤ a) (a1 : a < 18446744073709551616) (b0 : 0 ≤ b) (b1 : b < 18446744073709551616) (w : World) : Calls Tryd.prog 20 #[.int .i64 47, .int .u64 a, .int .u64 b] w fun e w' => e = .returned (.tuple #[.int .u64 (Pv 47 a b), .bool (isN32 47)]) ∧ w' = w := sum20s_47 47 a b rfl a0 a1 b0 b1 w
set_option maxRecDepth 20000 in
set_option maxHeartbeats 2000000 in
theorem sum20s_28 (op a b : Int) (h : op = 28) (_a0 : 0 ≤ a) (_a1 : a < 18446744073709551616) (_b0 : 0 ≤ b) (_b1 : b < 18446744073709551616) (w : World) : Calls Tryd.prog 20 #[.int .i64 op, .int .u64 a, .int .u64 b] w fun e w' => e = .returned (.tuple #[.int .u64 (Pv 28 a b), .bool (isN32 28)]) ∧ w' = w := by
  rw [Pv_28, N_28]
  have n31 : (op == 31) = false := by subst h; rfl
  have n45 : (op == 45) = false := by subst h; rfl
  have n22 : (op == 22) = false := by subst h; rfl
  have n35 : (op == 35) = false := by subst h; rfl
  have n46 : (op == 46) = false := by subst h; rfl
  have n36 : (op == 36) = false := by subst h; rfl
  have n32 : (op == 32) = false := by subst h; rfl
  have n47 : (op == 47) = false := by subst h; rfl
  have y28 : (op == 28) = true := by subst h; rfl
  clear h
  go_enter Tryd.func20, Tryd.ntmps20
  apply seq_to (W := w)
  · go_wp2_with fail
    exact At.mk
  apply seq_to (W := w)
  · apply seq_to (W := w)
    · go_wp2_with fail
      exact At.mk
    apply blk_catch
    apply seq_exit; apply blk_pass (by decide)
    apply seq_exit; apply blk_pass (by decide)
    apply seq_exit; apply blk_pass (by decide)
    apply seq_exit; apply blk_pass (by decide)
    apply seq_exit; apply blk_pass (by decide)
    apply seq_exit; apply blk_pass (by decide)
    apply seq_exit; apply blk_pass (by decide)
    apply seq_exit; apply blk_pass (by decide)
    apply seq_exit; apply blk_pass (by decide)
    apply seq_exit; apply blk_pass (by decide)
    apply seq_to (W := w)
    · skip
      apply blk_catch
      apply seq_exit; apply blk_pass (by decide)
      apply seq_exit; apply blk_pass (by decide)
      apply seq_exit; apply blk_pass (by decide)
      apply seq_exit; apply blk_pass (by decide)
      apply seq_exit; apply blk_pass (by decide)
      go_wp2_with fail
      exact At.mk
    go_wp2_with fail
    exact At.mk
  go_wp2_with fail
  go_ret2
  exact ⟨rfl, rfl⟩
theorem sum20_28 (a b : Int) (a0 : 0 ≤ a) (a1 : a < 18446744073709551616) (b0 : 0 ≤ b) (b1 : b < 18446744073709551616) (w : World) : Calls Tryd.prog 20 #[.int .i64 28, .int .u64 a, .int .u64 b] w fun e w' => e = .returned (.tuple #[.int .u64 (Pv 28 a b), .bool (isN32 28)]) ∧ w' = w := sum20s_28 28 a b rfl a0 a1 b0 b1 w
set_option maxRecDepth 20000 in
set_option maxHeartbeats 2000000 in
theorem sum20s_37 (op a b : Int) (h : op = 37) (_a0 : 0 ≤ a) (_a1 : a < 18446744073709551616) (_b0 : 0 ≤ b) (_b1 : b < 18446744073709551616) (w : World) : Calls Tryd.prog 20 #[.int .i64 op, .int .u64 a, .int .u64 b] w fun e w' => e = .returned (.tuple #[.int .u64 (Pv 37 a b), .bool (isN32 37)]) ∧ w' = w := by
  rw [Pv_37, N_37]
  have n31 : (op == 31) = false := by subst h; rfl
  have n45 : (op == 45) = false := by subst h; rfl
  have n22 : (op == 22) = false := by subst h; rfl
  have n35 : (op == 35) = false := by subst h; rfl
  have n46 : (op == 46) = false := by subst h; rfl
  have n36 : (op == 36) = false := by subst h; rfl
  have n32 : (op == 32) = false := by subst h; rfl
  have n47 : (op == 47) = false := by subst h; rfl
  have n28 : (op == 28) = false := by subst h; rfl
  have y37 : (op == 37) = true := by subst h; rfl
  clear h
  go_enter Tryd.func20, Tryd.ntmps20
  apply seq_to (W := w)
  · go_wp2_with fail
    exact At.mk
  apply seq_to (W := w)
  · apply seq_to (W := w)
    · go_wp2_with fail
      exact At.mk
    apply blk_catch
    apply seq_exit; apply blk_pass (by decide)
    apply seq_exit; apply blk_pass (by decide)
    apply seq_exit; apply blk_pass (by decide)
    apply seq_exit; apply blk_pass (by decide)
    apply seq_exit; apply blk_pass (by decide)
    apply seq_exit; apply blk_pass (by decide)
    apply seq_exit; apply blk_pass (by decide)
    apply seq_exit; apply blk_pass (by decide)
    apply seq_exit; apply blk_pass (by decide)
    apply seq_exit; apply blk_pass (by decide)
    apply seq_to (W := w)
    · skip
      apply blk_catch
      apply seq_exit; apply blk_pass (by decide)
      apply seq_exit; apply blk_pass (by decide)
      apply seq_exit; apply blk_pass (by decide)
      apply seq_exit; apply blk_pass (by decide)
      apply seq_exit; apply blk_pass (by decide)
      go_wp2_with fail
      exact At.mk
    go_wp2_with fail
    exact At.mk
  go_wp2_with fail
  go_ret2
  exact ⟨rfl, rfl⟩
theorem sum20_37 (a b : Int) (a0 : 0 ≤ a) (a1 : a < 18446744073709551616) (b0 : 0 ≤ b) (b1 : b < 18446744073709551616) (w : World) : Calls Tryd.prog 20 #[.int .i64 37, .int .u64 a, .int .u64 b] w fun e w' => e = .returned (.tuple #[.int .u64 (Pv 37 a b), .bool (isN32 37)]) ∧ w' = w := sum20s_37 37 a b rfl a0 a1 b0 b1 w
end Go.Proofs.YtnmpbihpoefeoaaDoor
