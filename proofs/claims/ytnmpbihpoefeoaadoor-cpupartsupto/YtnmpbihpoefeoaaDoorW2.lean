/- Operations of two numbers: sums, shifts, comparisons, bits. -/
import Derived.Test.YtnmpbihpoefeoaaDoorVB
namespace Go.Proofs.YtnmpbihpoefeoaaDoor
open Go.RowKit Go.Shelf
set_option maxRecDepth 20000 in
set_option maxHeartbeats 2000000 in
theorem sum20s_33 (op a b : Int) (h : op = 33) (_a0 : 0 ≤ a) (_a1 : a < 18446744073709551616) (_b0 : 0 ≤ b) (_b1 : b < 18446744073709551616) (w : World) : Calls Tryd.prog 20 #[.int .i64 op, .int .u64 a, .int .u64 b] w fun e w' => e = .returned (.tuple #[.int .u64 (Pv 33 a b), .bool (isN32 33)]) ∧ w' = w := by
  rw [Pv_33, N_33]
  have n31 : (op == 31) = false := by subst h; rfl
  have n45 : (op == 45) = false := by subst h; rfl
  have n22 : (op == 22) = false := by subst h; rfl
  have n35 : (op == 35) = false := by subst h; rfl
  have n46 : (op == 46) = false := by subst h; rfl
  have n36 : (op == 36) = false := by subst h; rfl
  have n32 : (op == 32) = false := by subst h; rfl
  have n47 : (op == 47) = false := by subst h; rfl
  have n28 : (op == 28) = false := by subst h; rfl
  have n37 : (op == 37) = false := by subst h; rfl
  have y33 : (op == 33) = true := by subst h; rfl
  clear h
  go_enter Tryd.func20, Tryd.ntmps20
  apply seq_to (W := w)
  · go_wp2_with fail
    exact At.mk
  apply seq_to (W := w)
  · apply seq_to (W := w)
    · go_wp2_with fail
      exact At.mk
    apply blk_catch
    apply seq_exit; apply blk_pass (by decide)
    apply seq_exit; apply blk_pass (by decide)
    apply seq_exit; apply blk_pass (by decide)
    apply seq_exit; apply blk_pass (by decide)
    apply seq_exit; apply blk_pass (by decide)
    apply seq_exit; apply blk_pass (by decide)
    apply seq_exit; apply blk_pass (by decide)
    apply seq_exit; apply blk_pass (by decide)
    apply seq_to (W := w)
    · apply blk_norm; apply seq_to (W := w)
      · skip
        apply blk_catch
        apply seq_exit; apply blk_pass (by decide)
        apply seq_exit; apply blk_pass (by decide)
        apply seq_exit; apply blk_pass (by decide)
        apply seq_exit; apply blk_pass (by decide)
        apply seq_exit; apply blk_pass (by decide)
        apply seq_exit; apply blk_pass (by decide)
        go_wp2_with fail
        exact At.mk
      go_wp2_with ((go_at_call 34; refine (unsigned34 _ _).mono ?_; rintro e w' ⟨rfl, rfl⟩))
      exact At.mk
    go_wp2_with fail
    exact At.mk
  go_wp2_with fail
  go_ret2
  exact ⟨rfl, rfl⟩
theorem sum20_33 (a b : Int) (a0 : 0 ≤ a) (a1 : a < 18446744073709551616) (b0 : 0 ≤ b) (b1 : b < 18446744073709551616) (w : World) : Calls Tryd.prog 20 #[.int .i64 33, .int .u64 a, .int .u64 b] w fun e w' => e = .returned (.tuple #[.int .u64 (Pv 33 a b), .bool (isN32 33)]) ∧ w' = w := sum20s_33 33 a b rfl a0 a1 b0 b1 w
set_option maxRecDepth 20000 in
set_option maxHeartbeats 2000000 in
theorem sum20s_48 (op a b : Int) (h : op = 48) (_a0 : 0 ≤ a) (_a1 : a < 18446744073709551616) (_b0 : 0 ≤ b) (_b1 : b < 18446744073709551616) (w : World) : Calls Tryd.prog 20 #[.int .i64 op, .int .u64 a, .int .u64 b] w fun e w' => e = .returned (.tuple #[.int .u64 (Pv 48 a b), .bool (isN32 48)]) ∧ w' = w := by
  rw [Pv_48, N_48]
  have n31 : (op == 31) = false := by subst h; rfl
  have n45 : (op == 45) = false := by subst h; rfl
  have n22 : (op == 22) = false := by subst h; rfl
  have n35 : (op == 35) = false := by subst h; rfl
  have n46 : (op == 46) = false := by subst h; rfl
  have n36 : (op == 36) = false := by subst h; rfl
  have n32 : (op == 32) = false := by subst h; rfl
  have n47 : (op == 47) = false := by subst h; rfl
  have n28 : (op == 28) = false := by subst h; rfl
  have n37 : (op == 37) = false := by subst h; rfl
  have n33 : (op == 33) = false := by subst h; rfl
  have y48 : (op == 48) = true := by subst h; rfl
  clear h
  go_enter Tryd.func20, Tryd.ntmps20
  apply seq_to (W := w)
  · go_wp2_with fail
    exact At.mk
  apply seq_to (W := w)
  · apply seq_to (W := w)
    · go_wp2_with fail
      exact At.mk
    apply blk_catch
    apply seq_exit; apply blk_pass (by decide)
    apply seq_exit; apply blk_pass (by decide)
    apply seq_exit; apply blk_pass (by decide)
    apply seq_exit; apply blk_pass (by decide)
    apply seq_exit; apply blk_pass (by decide)
    apply seq_exit; apply blk_pass (by decide)
    apply seq_exit; apply blk_pass (by decide)
    apply seq_exit; apply blk_pass (by decide)
    apply seq_to (W := w)
    · apply blk_norm; apply seq_to (W := w)
      · skip
        apply blk_catch
        apply seq_exit; apply blk_pass (by decide)
        apply seq_exit; apply blk_pass (by decide)
        apply seq_exit; apply blk_pass (by decide)
        apply seq_exit; apply blk_pass (by decide)
        apply seq_exit; apply blk_pass (by decide)
        apply seq_exit; apply blk_pass (by decide)
        go_wp2_with fail
        exact At.mk
      go_wp2_with ((go_at_call 34; refine (unsigned34 _ _).mono ?_; rintro e w' ⟨rfl, rfl⟩))
      exact At.mk
    go_wp2_with fail
    exact At.mk
  go_wp2_with fail
  go_ret2
  exact ⟨rfl, rfl⟩
theorem sum20_48 (a b : Int) (a0 : 0 ≤ a) (a1 : a < 18446744073709551616) (b0 : 0 ≤ b) (b1 : b < 18446744073709551616) (w : World) : Calls Tryd.prog 20 #[.int .i64 48, .int .u64 a, .int .u64 b] w fun e w' => e = .returned (.tuple #[.int .u64 (Pv 48 a b), .bool (isN32 48)]) ∧ w' = w := sum20s_48 48 a b rfl a0 a1 b0 b1 w
set_option maxRecDepth 20000 in
set_option maxHeartbeats 2000000 in
theorem sum20s_29 (op a b : Int) (h : op = 29) (_a0 : 0 ≤ a) (_a1 : a < 18446744073709551616) (_b0 : 0 ≤ b) (_b1 : b < 18446744073709551616) (w : World) : Calls Tryd.prog 20 #[.int .i64 op, .int .u64 a, .int .u64 b] w fun e w' => e = .returned (.tuple #[.int .u64 (Pv 29 a b), .bool (isN32 29)]) ∧ w' = w := by
  rw [Pv_29, N_29]
  have n31 : (op == 31) = false := by subst h; rfl
  have n45 : (op == 45) = false := by subst h; rfl
  have n22 : (op == 22) = false := by subst h; rfl
  have n35 : (op == 35) = false := by subst h; rfl
  have n46 : (op == 46) = false := by subst h; rfl
  have n36 : (op == 36) = false := by subst h; rfl
  have n32 : (op == 32) = false := by subst h; rfl
  have n47 : (op == 47) = false := by subst h; rfl
  have n28 : (op == 28) = false := by subst h; rfl
  have n37 : (op == 37) = false := by subst h; rfl
  have n33 : (op == 33) = false := by subst h; rfl
  have n48 : (op == 48) = false := by subst h; rfl
  have y29 : (op == 29) = true := by subst h; rfl
  clear h
  go_enter Tryd.func20, Tryd.ntmps20
  apply seq_to (W := w)
  · go_wp2_with fail
    exact At.mk
  apply seq_to (W := w)
  · apply seq_to (W := w)
    · go_wp2_with fail
      exact At.mk
    apply blk_catch
    apply seq_exit; apply blk_pass (by decide)
    apply seq_exit; apply blk_pass (by decide)
    apply seq_exit; apply blk_pass (by decide)
    apply seq_exit; apply blk_pass (by decide)
    apply seq_exit; apply blk_pass (by decide)
    apply seq_exit; apply blk_pass (by decide)
    apply seq_exit; apply blk_pass (by decide)
    apply seq_exit; apply blk_pass (by decide)
    apply seq_to (W := w)
    · skip
      apply blk_catch
      apply seq_exit; apply blk_pass (by decide)
      apply seq_exit; apply blk_pass (by decide)
      apply seq_exit; apply blk_pass (by decide)
      apply seq_exit; apply blk_pass (by decide)
      apply seq_exit; apply blk_pass (by decide)
      apply seq_exit; apply blk_pass (by decide)
      apply seq_exit; apply blk_pass (by decide)
      go_wp2_with fail
      exact At.mk
    go_wp2_with fail
    exact At.mk
  go_wp2_with fail
  go_ret2
  exact ⟨rfl, rfl⟩
theorem sum20_29 (a b : Int) (a0 : 0 ≤ a) (a1 : a < 18446744073709551616) (b0 : 0 ≤ b) (b1 : b < 18446744073709551616) (w : World) : Calls Tryd.prog 20 #[.int .i64 29, .int .u64 a, .int .u64 b] w fun e w' => e = .returned (.tuple #[.int .u64 (Pv 29 a b), .bool (isN32 29)]) ∧ w' = w := sum20s_29 29 a b rfl a0 a1 b0 b1 w
set_option maxRecDepth 20000 in
set_option maxHeartbeats 2000000 in
theorem sum20s_41 (op a b : Int) (h : op = 41) (_a0 : 0 ≤ a) (_a1 : a < 18446744073709551616) (_b0 : 0 ≤ b) (_b1 : b < 18446744073709551616) (w : World) : Calls Tryd.prog 20 #[.int .i64 op, .int .u64 a, .int .u64 b] w fun e w' => e = .returned (.tuple #[.int .u64 (Pv 41 a b), .bool (isN32 41)]) ∧ w' = w := by
  rw [Pv_41, N_41]
  have n31 : (op == 31) = false := by subst h; rfl
  have n45 : (op == 45) = false := by subst h; rfl
  have n22 : (op == 22) = false := by subst h; rfl
  have n35 : (op == 35) = false := by subst h; rfl
  have n46 : (op == 46) = false := by subst h; rfl
  have n36 : (op == 36) = false := by subst h; rfl
  have n32 : (op == 32) = false := by subst h; rfl
  have n47 : (op == 47) = false := by subst h; rfl
  have n28 : (op == 28) = false := by subst h; rfl
  have n37 : (op == 37) = false := by subst h; rfl
  have n33 : (op == 33) = false := by subst h; rfl
  have n48 : (op == 48) = false := by subst h; rfl
  have n29 : (op == 29) = false := by subst h; rfl
  have y41 : (op == 41) = true := by subst h; rfl
  clear h
  go_enter Tryd.func20, Tryd.ntmps20
  apply seq_to (W := w)
  · go_wp2_with fail
    exact At.mk
  apply seq_to (W := w)
  · apply seq_to (W := w)
    · go_wp2_with fail
      exact At.mk
    apply blk_catch
    apply seq_exit; apply blk_pass (by decide)
    apply seq_exit; apply blk_pass (by decide)
    apply seq_exit; apply blk_pass (by decide)
    apply seq_exit; apply blk_pass (by decide)
    apply seq_exit; apply blk_pass (by decide)
    apply seq_exit; apply blk_pass (by decide)
    apply seq_exit; apply blk_pass (by decide)
    apply seq_exit; apply blk_pass (by decide)
    apply seq_to (W := w)
    · skip
      apply blk_catch
      apply seq_exit; apply blk_pass (by decide)
      apply seq_exit; apply blk_pass (by decide)
      apply seq_exit; apply blk_pass (by decide)
      apply seq_exit; apply blk_pass (by decide)
      apply seq_exit; apply blk_pass (by decide)
      apply seq_exit; apply blk_pass (by decide)
      apply seq_exit; apply blk_pass (by decide)
      go_wp2_with fail
      exact At.mk
    go_wp2_with fail
    exact At.mk
  go_wp2_with fail
  go_ret2
  exact ⟨rfl, rfl⟩
theorem sum20_41 (a b : Int) (a0 : 0 ≤ a) (a1 : a < 18446744073709551616) (b0 : 0 ≤ b) (b1 : b < 18446744073709551616) (w : World) : Calls Tryd.prog 20 #[.int .i64 41, .int .u64 a, .int .u64 b] w fun e w' => e = .returned (.tuple #[.int .u64 (Pv 41 a b), .bool (isN32 41)]) ∧ w' = w := sum20s_41 41 a b rfl a0 a1 b0 b1 w
set_option maxRecDepth 20000 in
set_option maxHeartbeats 2000000 in
theorem sum20s_34 (op a b : Int) (h : op = 34) (_a0 : 0 ≤ a) (_a1 : a < 18446744073709551616) (_b0 : 0 ≤ b) (_b1 : b < 18446744073709551616) (w : World) : Calls Tryd.prog 20 #[.int .i64 op, .int .u64 a, .int .u64 b] w fun e w' => e = .returned (.tuple #[.int .u64 (Pv 34 a b), .bool (isN32 34)]) ∧ w' = w := by
  rw [Pv_34, N_34]
  have n31 : (op == 31) = false := by subst h; rfl
  have n45 : (op == 45) = false := by subst h; rfl
  have n22 : (op == 22) = false := by subst h; rfl
  have n35 : (op == 35) = false := by subst h; rfl
  have n46 : (op == 46) = false := by subst h; rfl
  have n36 : (op == 36) = false := by subst h; rfl
  have n32 : (op == 32) = false := by subst h; rfl
  have n47 : (op == 47) = false := by subst h; rfl
  have n28 : (op == 28) = false := by subst h; rfl
  have n37 : (op == 37) = false := by subst h; rfl
  have n33 : (op == 33) = false := by subst h; rfl
  have n48 : (op == 48) = false := by subst h; rfl
  have n29 : (op == 29) = false := by subst h; rfl
  have n41 : (op == 41) = false := by subst h; rfl
  have y34 : (op == 34) = true := by subst h; rfl
  clear h
  go_enter Tryd.func20, Tryd.ntmps20
  apply seq_to (W := w)
  · go_wp2_with fail
    exact At.mk
  apply seq_to (W := w)
  · apply seq_to (W := w)
    · go_wp2_with fail
      exact At.mk
    apply blk_catch
    apply seq_exit; apply blk_pass (by decide)
    apply seq_exit; apply blk_pass (by decide)
    apply seq_exit; apply blk_pass (by decide)
    apply seq_exit; apply blk_pass (by decide)
    apply seq_exit; apply blk_pass (by decide)
    apply seq_exit; apply blk_pass (by decide)
    apply seq_to (W := w)
    · apply blk_norm; apply seq_to (W := w)
      · skip
        apply blk_catch
        apply seq_exit; apply blk_pass (by decide)
        apply seq_exit; apply blk_pass (by decide)
        apply seq_exit; apply blk_pass (by decide)
        apply seq_exit; apply blk_pass (by decide)
        apply seq_exit; apply blk_pass (by decide)
        apply seq_exit; apply blk_pass (by decide)
        apply seq_exit; apply blk_pass (by decide)
        apply seq_exit; apply blk_pass (by decide)
        go_wp2_with fail
        exact At.mk
      go_wp2_with ((go_at_call 21; refine (signed21 _ _).mono ?_; rintro e w' ⟨rfl, rfl⟩))
      exact At.mk
    go_wp2_with fail
    exact At.mk
  go_wp2_with fail
  go_ret2
  exact ⟨rfl, rfl⟩
theorem sum20_34 (a b : Int) (a0 : 0 ≤ a) (a1 : a < 18446744073709551616) (b0 : 0 ≤ b) (b1 : b < 18446744073709551616) (w : World) : Calls Tryd.prog 20 #[.int .i64 34, .int .u64 a, .int .u64 b] w fun e w' => e = .returned (.tuple #[.int .u64 (Pv 34 a b), .bool (isN32 34)]) ∧ w' = w := sum20s_34 34 a b rfl a0 a1 b0 b1 w
set_option maxRecDepth 20000 in
set_option maxHeartbeats 2000000 in
theorem sum20s_49 (op a b : Int) (h : op = 49) (_a0 : 0 ≤ a) (_a1 : a < 18446744073709551616) (_b0 : 0 ≤ b) (_b1 : b < 18446744073709551616) (w : World) : Calls Tryd.prog 20 #[.int .i64 op, .int .u64 a, .int .u64 b] w fun e w' => e = .returned (.tuple #[.int .u64 (Pv 49 a b), .bool (isN32 49)]) ∧ w' = w := by
  rw [Pv_49, N_49]
  have n31 : (op == 31) = false := by subst h; rfl
  have n45 : (op == 45) = false := by subst h; rfl
  have n22 : (op == 22) = false := by subst h; rfl
  have n35 : (op == 35) = false := by subst h; rfl
  have n46 : (op == 46) = false := by subst h; rfl
  have n36 : (op == 36) = false := by subst h; rfl
  have n32 : (op == 32) = false := by subst h; rfl
  have n47 : (op == 47) = false := by subst h; rfl
  have n28 : (op == 28) = false := by subst h; rfl
  have n37 : (op == 37) = false := by subst h; rfl
  have n33 : (op == 33) = false := by subst h; rfl
  have n48 : (op == 48) = false := by subst h; rfl
  have n29 : (op == 29) = false := by subst h; rfl
  have n41 : (op == 41) = false := by subst h; rfl
  have n34 : (op == 34) = false := by subst h; rfl
  have y49 : (op == 49) = true := by subst h; rfl
  clear h
  go_enter Tryd.func20, Tryd.ntmps20
  apply seq_to (W := w)
  · go_wp2_with fail
    exact At.mk
  apply seq_to (W := w)
  · apply seq_to (W := w)
    · go_wp2_with fail
      exact At.mk
    apply blk_catch
    apply seq_exit; apply blk_pass (by decide)
    apply seq_exit; apply blk_pass (by decide)
    apply seq_exit; apply blk_pass (by decide)
    apply seq_exit; apply blk_pass (by decide)
    apply seq_exit; apply blk_pass (by decide)
    apply seq_exit; apply blk_pass (by decide)
    apply seq_to (W := w)
    · apply blk_norm; apply seq_to (W := w)
      · skip
        apply blk_catch
        apply seq_exit; apply blk_pass (by decide)
        apply seq_exit; apply blk_pass (by decide)
        apply seq_exit; apply blk_pass (by decide)
        apply seq_exit; apply blk_pass (by decide)
        apply seq_exit; apply blk_pass (by decide)
        apply seq_exit; apply blk_pass (by decide)
        apply seq_exit; apply blk_pass (by decide)
        apply seq_exit; apply blk_pass (by decide)
        go_wp2_with fail
        exact At.mk
      go_wp2_with ((go_at_call 21; refine (signed21 _ _).mono ?_; rintro e w' ⟨rfl, rfl⟩))
      exact At.mk
    go_wp2_with fail
    exact At.mk
  go_wp2_with fail
  go_ret2
  exact ⟨rfl, rfl⟩
theorem sum20_49 (a b : Int) (a0 : 0 ≤ a) (a1 : a < 18446744073709551616) (b0 : 0 ≤ b) (b1 : b < 18446744073709551616) (w : World) : Calls Tryd.prog 20 #[.int .i64 49, .int .u64 a, .int .u64 b] w fun e w' => e = .returned (.tuple #[.int .u64 (Pv 49 a b), .bool (isN32 49)]) ∧ w' = w := sum20s_49 49 a b rfl a0 a1 b0 b1 w
set_option maxRecDepth 20000 in
set_option maxHeartbeats 2000000 in
theorem sum20s_30 (op a b : Int) (h : op = 30) (_a0 : 0 ≤ a) (_a1 : a < 18446744073709551616) (_b0 : 0 ≤ b) (_b1 : b < 18446744073709551616) (w : World) : Calls Tryd.prog 20 #[.int .i64 op, .int .u64 a, .int .u64 b] w fun e w' => e = .returned (.tuple #[.int .u64 (Pv 30 a b), .bool (isN32 30)]) ∧ w' = w := by
  rw [Pv_30, N_30]
  have n31 : (op == 31) = false := by subst h; rfl
  have n45 : (op == 45) = false := by subst h; rfl
  have n22 : (op == 22) = false := by subst h; rfl
  have n35 : (op == 35) = false := by subst h; rfl
  have n46 : (op == 46) = false := by subst h; rfl
  have n36 : (op == 36) = false := by subst h; rfl
  have n32 : (op == 32) = false := by subst h; rfl
  have n47 : (op == 47) = false := by subst h; rfl
  have n28 : (op == 28) = false := by subst h; rfl
  have n37 : (op == 37) = false := by subst h; rfl
  have n33 : (op == 33) = false := by subst h; rfl
  have n48 : (op == 48) = false := by subst h; rfl
  have n29 : (op == 29) = false := by subst h; rfl
  have n41 : (op == 41) = false := by subst h; rfl
  have n34 : (op == 34) = false := by subst h; rfl
  have n49 : (op == 49) = false := by subst h; rfl
  have y30 : (op == 30) = true := by subst h; rfl
  clear h
  go_enter Tryd.func20, Tryd.ntmps20
  apply seq_to (W := w)
  · go_wp2_with fail
    exact At.mk
  apply seq_to (W := w)
  · apply seq_to (W := w)
    · go_wp2_with fail
      exact At.mk
    apply blk_catch
    apply seq_exit; apply blk_pass (by decide)
    apply seq_exit; apply blk_pass (by decide)
    apply seq_exit; apply blk_pass (by decide)
    apply seq_exit; apply blk_pass (by decide)
    apply seq_exit; apply blk_pass (by decide)
    apply seq_exit; apply blk_pass (by decide)
    apply seq_to (W := w)
    · skip
      apply blk_catch
      apply seq_exit; apply blk_pass (by decide)
      apply seq_exit; apply blk_pass (by decide)
      apply seq_exit; apply blk_pass (by decide)
      apply seq_exit; apply blk_pass (by decide)
      apply seq_exit; apply blk_pass (by decide)
      apply seq_exit; apply blk_pass (by decide)
      apply seq_exit; apply blk_pass (by decide)
      apply seq_exit; apply blk_pass (by decide)
      apply seq_exit; apply blk_pass (by decide)
      go_wp2_with fail
      exact At.mk
    go_wp2_with fail
    exact At.mk
  go_wp2_with fail
  go_ret2
  exact ⟨rfl, rfl⟩
theorem sum20_30 (a b : Int) (a0 : 0 ≤ a) (a1 : a < 18446744073709551616) (b0 : 0 ≤ b) (b1 : b < 18446744073709551616) (w : World) : Calls Tryd.prog 20 #[.int .i64 30, .int .u64 a, .int .u64 b] w fun e w' => e = .returned (.tuple #[.int .u64 (Pv 30 a b), .bool (isN32 30)]) ∧ w' = w := sum20s_30 30 a b rfl a0 a1 b0 b1 w
set_option maxRecDepth 20000 in
set_option maxHeartbeats 2000000 in
theorem sum20s_42 (op a b : Int) (h : op = 42) (_a0 : 0 ≤ a) (_a1 : a < 18446744073709551616) (_b0 : 0 ≤ b) (_b1 : b < 18446744073709551616) (w : World) : Calls Tryd.prog 20 #[.int .i64 op, .int .u64 a, .int .u64 b] w fun e w' => e = .returned (.tuple #[.int .u64 (Pv 42 a b), .bool (isN32 42)]) ∧ w' = w := by
  rw [Pv_42, N_42]
  have n31 : (op == 31) = false := by subst h; rfl
  have n45 : (op == 45) = false := by subst h; rfl
  have n22 : (op == 22) = false := by subst h; rfl
  have n35 : (op == 35) = false := by subst h; rfl
  have n46 : (op == 46) = false := by subst h; rfl
  have n36 : (op == 36) = false := by subst h; rfl
  have n32 : (op == 32) = false := by subst h; rfl
  have n47 : (op == 47) = false := by subst h; rfl
  have n28 : (op == 28) = false := by subst h; rfl
  have n37 : (op == 37) = false := by subst h; rfl
  have n33 : (op == 33) = false := by subst h; rfl
  have n48 : (op == 48) = false := by subst h; rfl
  have n29 : (op == 29) = false := by subst h; rfl
  have n41 : (op == 41) = false := by subst h; rfl
  have n34 : (op == 34) = false := by subst h; rfl
  have n49 : (op == 49) = false := by subst h; rfl
  have n30 : (op == 30) = false := by subst h; rfl
  have y42 : (op == 42) = true := by subst h; rfl
  clear h
  go_enter Tryd.func20, Tryd.ntmps20
  apply seq_to (W := w)
  · go_wp2_with fail
    exact At.mk
  apply seq_to (W := w)
  · apply seq_to (W := w)
    · go_wp2_with fail
      exact At.mk
    apply blk_catch
    apply seq_exit; apply blk_pass (by decide)
    apply seq_exit; apply blk_pass (by decide)
    apply seq_exit; apply blk_pass (by decide)
    apply seq_exit; apply blk_pass (by decide)
    apply seq_exit; apply blk_pass (by decide)
    apply seq_exit; apply blk_pass (by decide)
    apply seq_to (W := w)
    · skip
      apply blk_catch
      apply seq_exit; apply blk_pass (by decide)
      apply seq_exit; apply blk_pass (by decide)
      apply seq_exit; apply blk_pass (by decide)
      apply seq_exit; apply blk_pass (by decide)
      apply seq_exit; apply blk_pass (by decide)
      apply seq_exit; apply blk_pass (by decide)
      apply seq_exit; apply blk_pass (by decide)
      apply seq_exit; apply blk_pass (by decide)
      apply seq_exit; apply blk_pass (by decide)
      go_wp2_with fail
      exact At.mk
    go_wp2_with fail
    exact At.mk
  go_wp2_with fail
  go_ret2
  exact ⟨rfl, rfl⟩
theorem sum20_42 (a b : Int) (a0 : 0 ≤ a) (a1 : a < 18446744073709551616) (b0 : 0 ≤ b) (b1 : b < 18446744073709551616) (w : World) : Calls Tryd.prog 20 #[.int .i64 42, .int .u64 a, .int .u64 b] w fun e w' => e = .returned (.tuple #[.int .u64 (Pv 42 a b), .bool (isN32 42)]) ∧ w' = w := sum20s_42 42 a b rfl a0 a1 b0 b1 w
end Go.Proofs.YtnmpbihpoefeoaaDoor
