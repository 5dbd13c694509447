/- Operations of two numbers: sums, shifts, comparisons, bits. -/
import Derived.Test.YtnmpbihpoefeoaaDoorVB
namespace Go.Proofs.YtnmpbihpoefeoaaDoor
open Go.RowKit Go.Shelf
set_option maxRecDepth 20000 in
set_option maxHeartbeats 2000000 in
theorem sum20s_23 (op a b : Int) (h : op = 23) (_a0 : 0 ≤ a) (_a1 : a < 18446744073709551616) (_b0 : 0 ≤ b) (_b1 : b < 18446744073709551616) (w : World) : Calls Tryd.prog 20 #[.int .i64 op, .int .u64 a, .int .u64 b] w fun e w' => e = .returned (.tuple #[.int .u64 (Pv 23 a b), .bool (isN32 23)]) ∧ w' = w := by
  rw [Pv_23, N_23]
  have n31 : (op == 31) = false := by subst h; rfl
  have n45 : (op == 45) = false := by subst h; rfl
  have n22 : (op == 22) = false := by subst h; rfl
  have n35 : (op == 35) = false := by subst h; rfl
  have n46 : (op == 46) = false := by subst h; rfl
  have n36 : (op == 36) = false := by subst h; rfl
  have n32 : (op == 32) = false := by subst h; rfl
  have n47 : (op == 47) = false := by subst h; rfl
  have n28 : (op == 28) = false := by subst h; rfl
  have n37 : (op == 37) = false := by subst h; rfl
  have n33 : (op == 33) = false := by subst h; rfl
  have n48 : (op == 48) = false := by subst h; rfl
  have n29 : (op == 29) = false := by subst h; rfl
  have n41 : (op == 41) = false := by subst h; rfl
  have n34 : (op == 34) = false := by subst h; rfl
  have n49 : (op == 49) = false := by subst h; rfl
  have n30 : (op == 30) = false := by subst h; rfl
  have n42 : (op == 42) = false := by subst h; rfl
  have y23 : (op == 23) = true := by subst h; rfl
  clear h
  go_enter Tryd.func20, Tryd.ntmps20
  apply seq_to (W := w)
  · go_wp2_with fail
    exact At.mk
  apply seq_to (W := w)
  · apply seq_to (W := w)
    · go_wp2_with fail
      exact At.mk
    apply blk_catch
    apply seq_exit; apply blk_pass (by decide)
    apply seq_exit; apply blk_pass (by decide)
    apply seq_exit; apply blk_pass (by decide)
    apply seq_exit; apply blk_pass (by decide)
    apply seq_exit; apply blk_pass (by decide)
    apply seq_to (W := w)
    · skip
      apply blk_catch
      apply seq_exit; apply blk_pass (by decide)
      apply seq_exit; apply blk_pass (by decide)
      apply seq_exit; apply blk_pass (by decide)
      apply seq_exit; apply blk_pass (by decide)
      apply seq_exit; apply blk_pass (by decide)
      apply seq_exit; apply blk_pass (by decide)
      apply seq_exit; apply blk_pass (by decide)
      apply seq_exit; apply blk_pass (by decide)
      apply seq_exit; apply blk_pass (by decide)
      apply seq_exit; apply blk_pass (by decide)
      go_wp2_with fail
      exact At.mk
    go_wp2_with ((go_at_call 35; refine (truth35' _ _).mono ?_; rintro e w' ⟨rfl, rfl⟩))
    exact At.mk
  go_wp2_with fail
  go_ret2
  exact ⟨rfl, rfl⟩
theorem sum20_23 (a b : Int) (a0 : 0 ≤ a) (a1 : a < 18446744073709551616) (b0 : 0 ≤ b) (b1 : b < 18446744073709551616) (w : World) : Calls Tryd.prog 20 #[.int .i64 23, .int .u64 a, .int .u64 b] w fun e w' => e = .returned (.tuple #[.int .u64 (Pv 23 a b), .bool (isN32 23)]) ∧ w' = w := sum20s_23 23 a b rfl a0 a1 b0 b1 w
set_option maxRecDepth 20000 in
set_option maxHeartbeats 2000000 in
theorem sum20s_38 (op a b : Int) (h : op = 38) (_a0 : 0 ≤ a) (_a1 : a < 18446744073709551616) (_b0 : 0 ≤ b) (_b1 : b < 18446744073709551616) (w : World) : Calls Tryd.prog 20 #[.int .i64 op, .int .u64 a, .int .u64 b] w fun e w' => e = .returned (.tuple #[.int .u64 (Pv 38 a b), .bool (isN32 38)]) ∧ w' = w := by
  rw [Pv_38, N_38]
  have n31 : (op == 31) = false := by subst h; rfl
  have n45 : (op == 45) = false := by subst h; rfl
  have n22 : (op == 22) = false := by subst h; rfl
  have n35 : (op == 35) = false := by subst h; rfl
  have n46 : (op == 46) = false := by subst h; rfl
  have n36 : (op == 36) = false := by subst h; rfl
  have n32 : (op == 32) = false := by subst h; rfl
  have n47 : (op == 47) = false := by subst h; rfl
  have n28 : (op == 28) = false := by subst h; rfl
  have n37 : (op == 37) = false := by subst h; rfl
  have n33 : (op == 33) = false := by subst h; rfl
  have n48 : (op == 48) = false := by subst h; rfl
  have n29 : (op == 29) = false := by subst h; rfl
  have n41 : (op == 41) = false := by subst h; rfl
  have n34 : (op == 34) = false := by subst h; rfl
  have n49 : (op == 49) = false := by subst h; rfl
  have n30 : (op == 30) = false := by subst h; rfl
  have n42 : (op == 42) = false := by subst h; rfl
  have n23 : (op == 23) = false := by subst h; rfl
  have y38 : (op == 38) = true := by subst h; rfl
  clear h
  go_enter Tryd.func20, Tryd.ntmps20
  apply seq_to (W := w)
  · go_wp2_with fail
    exact At.mk
  apply seq_to (W := w)
  · apply seq_to (W := w)
    · go_wp2_with fail
      exact At.mk
    apply blk_catch
    apply seq_exit; apply blk_pass (by decide)
    apply seq_exit; apply blk_pass (by decide)
    apply seq_exit; apply blk_pass (by decide)
    apply seq_exit; apply blk_pass (by decide)
    apply seq_exit; apply blk_pass (by decide)
    apply seq_to (W := w)
    · skip
      apply blk_catch
      apply seq_exit; apply blk_pass (by decide)
      apply seq_exit; apply blk_pass (by decide)
      apply seq_exit; apply blk_pass (by decide)
      apply seq_exit; apply blk_pass (by decide)
      apply seq_exit; apply blk_pass (by decide)
      apply seq_exit; apply blk_pass (by decide)
      apply seq_exit; apply blk_pass (by decide)
      apply seq_exit; apply blk_pass (by decide)
      apply seq_exit; apply blk_pass (by decide)
      apply seq_exit; apply blk_pass (by decide)
      go_wp2_with fail
      exact At.mk
    go_wp2_with ((go_at_call 35; refine (truth35' _ _).mono ?_; rintro e w' ⟨rfl, rfl⟩))
    exact At.mk
  go_wp2_with fail
  go_ret2
  exact ⟨rfl, rfl⟩
theorem sum20_38 (a b : Int) (a0 : 0 ≤ a) (a1 : a < 18446744073709551616) (b0 : 0 ≤ b) (b1 : b < 18446744073709551616) (w : World) : Calls Tryd.prog 20 #[.int .i64 38, .int .u64 a, .int .u64 b] w fun e w' => e = .returned (.tuple #[.int .u64 (Pv 38 a b), .bool (isN32 38)]) ∧ w' = w := sum20s_38 38 a b rfl a0 a1 b0 b1 w
set_option maxRecDepth 20000 in
set_option maxHeartbeats 2000000 in
theorem sum20s_24 (op a b : Int) (h : op = 24) (_a0 : 0 ≤ a) (_a1 : a < 18446744073709551616) (_b0 : 0 ≤ b) (_b1 : b < 18446744073709551616) (w : World) : Calls Tryd.prog 20 #[.int .i64 op, .int .u64 a, .int .u64 b] w fun e w' => e = .returned (.tuple #[.int .u64 (Pv 24 a b), .bool (isN32 24)]) ∧ w' = w := by
  rw [Pv_24, N_24]
  have n31 : (op == 31) = false := by subst h; rfl
  have n45 : (op == 45) = false := by subst h; rfl
  have n22 : (op == 22) = false := by subst h; rfl
  have n35 : (op == 35) = false := by subst h; rfl
  have n46 : (op == 46) = false := by subst h; rfl
  have n36 : (op == 36) = false := by subst h; rfl
  have n32 : (op == 32) = false := by subst h; rfl
  have n47 : (op == 47) = false := by subst h; rfl
  have n28 : (op == 28) = false := by subst h; rfl
  have n37 : (op == 37) = false := by subst h; rfl
  have n33 : (op == 33) = false := by subst h; rfl
  have n48 : (op == 48) = false := by subst h; rfl
  have n29 : (op == 29) = false := by subst h; rfl
  have n41 : (op == 41) = false := by subst h; rfl
  have n34 : (op == 34) = false := by subst h; rfl
  have n49 : (op == 49) = false := by subst h; rfl
  have n30 : (op == 30) = false := by subst h; rfl
  have n42 : (op == 42) = false := by subst h; rfl
  have n23 : (op == 23) = false := by subst h; rfl
  have n38 : (op == 38) = false := by subst h; rfl
  have y24 : (op == 24) = true := by subst h; rfl
  clear h
  go_enter Tryd.func20, Tryd.ntmps20
  apply seq_to (W := w)
  · go_wp2_with fail
    exact At.mk
  apply seq_to (W := w)
  · apply seq_to (W := w)
    · go_wp2_with fail
      exact At.mk
    apply blk_catch
    apply seq_exit; apply blk_pass (by decide)
    apply seq_exit; apply blk_pass (by decide)
    apply seq_exit; apply blk_pass (by decide)
    apply seq_exit; apply blk_pass (by decide)
    apply seq_to (W := w)
    · skip
      apply blk_catch
      apply seq_exit; apply blk_pass (by decide)
      apply seq_exit; apply blk_pass (by decide)
      apply seq_exit; apply blk_pass (by decide)
      apply seq_exit; apply blk_pass (by decide)
      apply seq_exit; apply blk_pass (by decide)
      apply seq_exit; apply blk_pass (by decide)
      apply seq_exit; apply blk_pass (by decide)
      apply seq_exit; apply blk_pass (by decide)
      apply seq_exit; apply blk_pass (by decide)
      apply seq_exit; apply blk_pass (by decide)
      apply seq_exit; apply blk_pass (by decide)
      go_wp2_with fail
      exact At.mk
    go_wp2_with ((go_at_call 35; refine (truth35' _ _).mono ?_; rintro e w' ⟨rfl, rfl⟩))
    exact At.mk
  go_wp2_with fail
  go_ret2
  exact ⟨rfl, rfl⟩
theorem sum20_24 (a b : Int) (a0 : 0 ≤ a) (a1 : a < 18446744073709551616) (b0 : 0 ≤ b) (b1 : b < 18446744073709551616) (w : World) : Calls Tryd.prog 20 #[.int .i64 24, .int .u64 a, .int .u64 b] w fun e w' => e = .returned (.tuple #[.int .u64 (Pv 24 a b), .bool (isN32 24)]) ∧ w' = w := sum20s_24 24 a b rfl a0 a1 b0 b1 w
set_option maxRecDepth 20000 in
set_option maxHeartbeats 2000000 in
theorem sum20s_39 (op a b : Int) (h : op = 39) (_a0 : 0 ≤ a) (_a1 : a < 18446744073709551616) (_b0 : 0 ≤ b) (_b1 : b < 18446744073709551616) (w : World) : Calls Tryd.prog 20 #[.int .i64 op, .int .u64 a, .int .u64 b] w fun e w' => e = .returned (.tuple #[.int .u64 (Pv 39 a b), .bool (isN32 39)]) ∧ w' = w := by
  rw [Pv_39, N_39]
  have n31 : (op == 31) = false := by subst h; rfl
  have n45 : (op == 45) = false := by subst h; rfl
  have n22 : (op == 22) = false := by subst h; rfl
  have n35 : (op == 35) = false := by subst h; rfl
  have n46 : (op == 46) = false := by subst h; rfl
  have n36 : (op == 36) = false := by subst h; rfl
  have n32 : (op == 32) = false := by subst h; rfl
  have n47 : (op == 47) = false := by subst h; rfl
  have n28 : (op == 28) = false := by subst h; rfl
  have n37 : (op == 37) = false := by subst h; rfl
  have n33 : (op == 33) = false := by subst h; rfl
  have n48 : (op == 48) = false := by subst h; rfl
  have n29 : (op == 29) = false := by subst h; rfl
  have n41 : (op == 41) = false := by subst h; rfl
  have n34 : (op == 34) = false := by subst h; rfl
  have n49 : (op == 49) = false := by subst h; rfl
  have n30 : (op == 30) = false := by subst h; rfl
  have n42 : (op == 42) = false := by subst h; rfl
  have n23 : (op == 23) = false := by subst h; rfl
  have n38 : (op == 38) = false := by subst h; rfl
  have n24 : (op == 24) = false := by subst h; rfl
  have y39 : (op == 39) = true := by subst h; rfl
  clear h
  go_enter Tryd.func20, Tryd.ntmps20
  apply seq_to (W := w)
  · go_wp2_with fail
    exact At.mk
  apply seq_to (W := w)
  · apply seq_to (W := w)
    · go_wp2_with fail
      exact At.mk
    apply blk_catch
    apply seq_exit; apply blk_pass (by decide)
    apply seq_exit; apply blk_pass (by decide)
    apply seq_exit; apply blk_pass (by decide)
    apply seq_exit; apply blk_pass (by decide)
    apply seq_to (W := w)
    · skip
      apply blk_catch
      apply seq_exit; apply blk_pass (by decide)
      apply seq_exit; apply blk_pass (by decide)
      apply seq_exit; apply blk_pass (by decide)
      apply seq_exit; apply blk_pass (by decide)
      apply seq_exit; apply blk_pass (by decide)
      apply seq_exit; apply blk_pass (by decide)
      apply seq_exit; apply blk_pass (by decide)
      apply seq_exit; apply blk_pass (by decide)
      apply seq_exit; apply blk_pass (by decide)
      apply seq_exit; apply blk_pass (by decide)
      apply seq_exit; apply blk_pass (by decide)
      go_wp2_with fail
      exact At.mk
    go_wp2_with ((go_at_call 35; refine (truth35' _ _).mono ?_; rintro e w' ⟨rfl, rfl⟩))
    exact At.mk
  go_wp2_with fail
  go_ret2
  exact ⟨rfl, rfl⟩
theorem sum20_39 (a b : Int) (a0 : 0 ≤ a) (a1 : a < 18446744073709551616) (b0 : 0 ≤ b) (b1 : b < 18446744073709551616) (w : World) : Calls Tryd.prog 20 #[.int .i64 39, .int .u64 a, .int .u64 b] w fun e w' => e = .returned (.tuple #[.int .u64 (Pv 39 a b), .bool (isN32 39)]) ∧ w' = w := sum20s_39 39 a b rfl a0 a1 b0 b1 w
set_option maxRecDepth 20000 in
set_option maxHeartbeats 2000000 in
theorem sum20s_25 (op a b : Int) (h : op = 25) (_a0 : 0 ≤ a) (_a1 : a < 18446744073709551616) (_b0 : 0 ≤ b) (_b1 : b < 18446744073709551616) (w : World) : Calls Tryd.prog 20 #[.int .i64 op, .int .u64 a, .int .u64 b] w fun e w' => e = .returned (.tuple #[.int .u64 (Pv 25 a b), .bool (isN32 25)]) ∧ w' = w := by
  rw [Pv_25, N_25]
  have n31 : (op == 31) = false := by subst h; rfl
  have n45 : (op == 45) = false := by subst h; rfl
  have n22 : (op == 22) = false := by subst h; rfl
  have n35 : (op == 35) = false := by subst h; rfl
  have n46 : (op == 46) = false := by subst h; rfl
  have n36 : (op == 36) = false := by subst h; rfl
  have n32 : (op == 32) = false := by subst h; rfl
  have n47 : (op == 47) = false := by subst h; rfl
  have n28 : (op == 28) = false := by subst h; rfl
  have n37 : (op == 37) = false := by subst h; rfl
  have n33 : (op == 33) = false := by subst h; rfl
  have n48 : (op == 48) = false := by subst h; rfl
  have n29 : (op == 29) = false := by subst h; rfl
  have n41 : (op == 41) = false := by subst h; rfl
  have n34 : (op == 34) = false := by subst h; rfl
  have n49 : (op == 49) = false := by subst h; rfl
  have n30 : (op == 30) = false := by subst h; rfl
  have n42 : (op == 42) = false := by subst h; rfl
  have n23 : (op == 23) = false := by subst h; rfl
  have n38 : (op == 38) = false := by subst h; rfl
  have n24 : (op == 24) = false := by subst h; rfl
  have n39 : (op == 39) = false := by subst h; rfl
  have y25 : (op == 25) = true := by subst h; rfl
  clear h
  go_enter Tryd.func20, Tryd.ntmps20
  apply seq_to (W := w)
  · go_wp2_with fail
    exact At.mk
  apply seq_to (W := w)
  · apply seq_to (W := w)
    · go_wp2_with fail
      exact At.mk
    apply blk_catch
    apply seq_exit; apply blk_pass (by decide)
    apply seq_exit; apply blk_pass (by decide)
    apply seq_exit; apply blk_pass (by decide)
    apply seq_to (W := w)
    · skip
      apply blk_catch
      apply seq_exit; apply blk_pass (by decide)
      apply seq_exit; apply blk_pass (by decide)
      apply seq_exit; apply blk_pass (by decide)
      apply seq_exit; apply blk_pass (by decide)
      apply seq_exit; apply blk_pass (by decide)
      apply seq_exit; apply blk_pass (by decide)
      apply seq_exit; apply blk_pass (by decide)
      apply seq_exit; apply blk_pass (by decide)
      apply seq_exit; apply blk_pass (by decide)
      apply seq_exit; apply blk_pass (by decide)
      apply seq_exit; apply blk_pass (by decide)
      apply seq_exit; apply blk_pass (by decide)
      go_wp2_with fail
      exact At.mk
    go_wp2_with fail
    exact At.mk
  go_wp2_with fail
  go_ret2
  exact ⟨rfl, rfl⟩
theorem sum20_25 (a b : Int) (a0 : 0 ≤ a) (a1 : a < 18446744073709551616) (b0 : 0 ≤ b) (b1 : b < 18446744073709551616) (w : World) : Calls Tryd.prog 20 #[.int .i64 25, .int .u64 a, .int .u64 b] w fun e w' => e = .returned (.tuple #[.int .u64 (Pv 25 a b), .bool (isN32 25)]) ∧ w' = w := sum20s_25 25 a b rfl a0 a1 b0 b1 w
set_option maxRecDepth 20000 in
set_option maxHeartbeats 2000000 in
theorem sum20s_40 (op a b : Int) (h : op = 40) (_a0 : 0 ≤ a) (_a1 : a < 18446744073709551616) (_b0 : 0 ≤ b) (_b1 : b < 18446744073709551616) (w : World) : Calls Tryd.prog 20 #[.int .i64 op, .int .u64 a, .int .u64 b] w fun e w' => e = .returned (.tuple #[.int .u64 (Pv 40 a b), .bool (isN32 40)]) ∧ w' = w := by
  rw [Pv_40, N_40]
  have n31 : (op == 31) = false := by subst h; rfl
  have n45 : (op == 45) = false := by subst h; rfl
  have n22 : (op == 22) = false := by subst h; rfl
  have n35 : (op == 35) = false := by subst h; rfl
  have n46 : (op == 46) = false := by subst h; rfl
  have n36 : (op == 36) = false := by subst h; rfl
  have n32 : (op == 32) = false := by subst h; rfl
  have n47 : (op == 47) = false := by subst h; rfl
  have n28 : (op == 28) = false := by subst h; rfl
  have n37 : (op == 37) = false := by subst h; rfl
  have n33 : (op == 33) = false := by subst h; rfl
  have n48 : (op == 48) = false := by subst h; rfl
  have n29 : (op == 29) = false := by subst h; rfl
  have n41 : (op == 41) = false := by subst h; rfl
  have n34 : (op == 34) = false := by subst h; rfl
  have n49 : (op == 49) = false := by subst h; rfl
  have n30 : (op == 30) = false := by subst h; rfl
  have n42 : (op == 42) = false := by subst h; rfl
  have n23 : (op == 23) = false := by subst h; rfl
  have n38 : (op == 38) = false := by subst h; rfl
  have n24 : (op == 24) = false := by subst h; rfl
  have n39 : (op == 39) = false := by subst h; rfl
  have n25 : (op == 25) = false := by subst h; rfl
  have y40 : (op == 40) = true := by subst h; rfl
  clear h
  go_enter Tryd.func20, Tryd.ntmps20
  apply seq_to (W := w)
  · go_wp2_with fail
    exact At.mk
  apply seq_to (W := w)
  · apply seq_to (W := w)
    · go_wp2_with fail
      exact At.mk
    apply blk_catch
    apply seq_exit; apply blk_pass (by decide)
    apply seq_exit; apply blk_pass (by decide)
    apply seq_exit; apply blk_pass (by decide)
    apply seq_to (W := w)
    · skip
      apply blk_catch
      apply seq_exit; apply blk_pass (by decide)
      apply seq_exit; apply blk_pass (by decide)
      apply seq_exit; apply blk_pass (by decide)
      apply seq_exit; apply blk_pass (by decide)
      apply seq_exit; apply blk_pass (by decide)
      apply seq_exit; apply blk_pass (by decide)
      apply seq_exit; apply blk_pass (by decide)
      apply seq_exit; apply blk_pass (by decide)
      apply seq_exit; apply blk_pass (by decide)
      apply seq_exit; apply blk_pass (by decide)
      apply seq_exit; apply blk_pass (by decide)
      apply seq_exit; apply blk_pass (by decide)
      go_wp2_with fail
      exact At.mk
    go_wp2_with fail
    exact At.mk
  go_wp2_with fail
  go_ret2
  exact ⟨rfl, rfl⟩
theorem sum20_40 (a b : Int) (a0 : 0 ≤ a) (a1 : a < 18446744073709551616) (b0 : 0 ≤ b) (b1 : b < 18446744073709551616) (w : World) : Calls Tryd.prog 20 #[.int .i64 40, .int .u64 a, .int .u64 b] w fun e w' => e = .returned (.tuple #[.int .u64 (Pv 40 a b), .bool (isN32 40)]) ∧ w' = w := sum20s_40 40 a b rfl a0 a1 b0 b1 w
set_option maxRecDepth 20000 in
set_option maxHeartbeats 2000000 in
theorem sum20s_26 (op a b : Int) (h : op = 26) (_a0 : 0 ≤ a) (_a1 : a < 18446744073709551616) (_b0 : 0 ≤ b) (_b1 : b < 18446744073709551616) (w : World) : Calls Tryd.prog 20 #[.int .i64 op, .int .u64 a, .int .u64 b] w fun e w' => e = .returned (.tuple #[.int .u64 (Pv 26 a b), .bool (isN32 26)]) ∧ w' = w := by
  rw [Pv_26, N_26]
  have n31 : (op == 31) = false := by subst h; rfl
  have n45 : (op == 45) = false := by subst h; rfl
  have n22 : (op == 22) = false := by subst h; rfl
  have n35 : (op == 35) = false := by subst h; rfl
  have n46 : (op == 46) = false := by subst h; rfl
  have n36 : (op == 36) = false := by subst h; rfl
  have n32 : (op == 32) = false := by subst h; rfl
  have n47 : (op == 47) = false := by subst h; rfl
  have n28 : (op == 28) = false := by subst h; rfl
  have n37 : (op == 37) = false := by subst h; rfl
  have n33 : (op == 33) = false := by subst h; rfl
  have n48 : (op == 48) = false := by subst h; rfl
  have n29 : (op == 29) = false := by subst h; rfl
  have n41 : (op == 41) = false := by subst h; rfl
  have n34 : (op == 34) = false := by subst h; rfl
  have n49 : (op == 49) = false := by subst h; rfl
  have n30 : (op == 30) = false := by subst h; rfl
  have n42 : (op == 42) = false := by subst h; rfl
  have n23 : (op == 23) = false := by subst h; rfl
  have n38 : (op == 38) = false := by subst h; rfl
  have n24 : (op == 24) = false := by subst h; rfl
  have n39 : (op == 39) = false := by subst h; rfl
  have n25 : (op == 25) = false := by subst h; rfl
  have n40 : (op == 40) = false := by subst h; rfl
  have y26 : (op == 26) = true := by subst h; rfl
  clear h
  go_enter Tryd.func20, Tryd.ntmps20
  apply seq_to (W := w)
  · go_wp2_with fail
    exact At.mk
  apply seq_to (W := w)
  · apply seq_to (W := w)
    · go_wp2_with fail
      exact At.mk
    apply blk_catch
    apply seq_exit; apply blk_pass (by decide)
    apply seq_exit; apply blk_pass (by decide)
    apply seq_to (W := w)
    · skip
      apply blk_catch
      apply seq_exit; apply blk_pass (by decide)
      apply seq_exit; apply blk_pass (by decide)
      apply seq_exit; apply blk_pass (by decide)
      apply seq_exit; apply blk_pass (by decide)
      apply seq_exit; apply blk_pass (by decide)
      apply seq_exit; apply blk_pass (by decide)
      apply seq_exit; apply blk_pass (by decide)
      apply seq_exit; apply blk_pass (by decide)
      apply seq_exit; apply blk_pass (by decide)
      apply seq_exit; apply blk_pass (by decide)
      apply seq_exit; apply blk_pass (by decide)
      apply seq_exit; apply blk_pass (by decide)
      apply seq_exit; apply blk_pass (by decide)
      go_wp2_with fail
      exact At.mk
    go_wp2_with fail
    exact At.mk
  go_wp2_with fail
  go_ret2
  exact ⟨rfl, rfl⟩
theorem sum20_26 (a b : Int) (a0 : 0 ≤ a) (a1 : a < 18446744073709551616) (b0 : 0 ≤ b) (b1 : b < 18446744073709551616) (w : World) : Calls Tryd.prog 20 #[.int .i64 26, .int .u64 a, .int .u64 b] w fun e w' => e = .returned (.tuple #[.int .u64 (Pv 26 a b), .bool (isN32 26)]) ∧ w' = w := sum20s_26 26 a b rfl a0 a1 b0 b1 w
set_option maxRecDepth 20000 in
set_option maxHeartbeats 2000000 in
theorem sum20s_43 (op a b : Int) (h : op = 43) (_a0 : 0 ≤ a) (_a1 : a < 18446744073709551616) (_b0 : 0 ≤ b) (_b1 : b < 18446744073709551616) (w : World) : Calls Tryd.prog 20 #[.int .i64 op, .int .u64 a, .int .u64 b] w fun e w' => e = .returned (.tuple #[.int .u64 (Pv 43 a b), .bool (isN32 43)]) ∧ w' = w := by
  rw [Pv_43, N_43]
  have n31 : (op == 31) = false := by subst h; rfl
  have n45 : (op == 45) = false := by subst h; rfl
  have n22 : (op == 22) = false := by subst h; rfl
  have n35 : (op == 35) = false := by subst h; rfl
  have n46 : (op == 46) = false := by subst h; rfl
  have n36 : (op == 36) = false := by subst h; rfl
  have n32 : (op == 32) = false := by subst h; rfl
  have n47 : (op == 47) = false := by subst h; rfl
  have n28 : (op == 28) = false := by subst h; rfl
  have n37 : (op == 37) = false := by subst h; rfl
  have n33 : (op == 33) = false := by subst h; rfl
  have n48 : (op == 48) = false := by subst h; rfl
  have n29 : (op == 29) = false := by subst h; rfl
  have n41 : (op == 41) = false := by subst h; rfl
  have n34 : (op == 34) = false := by subst h; rfl
  have n49 : (op == 49) = false := by subst h; rfl
  have n30 : (op == 30) = false := by subst h; rfl
  have n42 : (op == 42) = false := by subst h; rfl
  have n23 : (op == 23) = false := by subst h; rfl
  have n38 : (op == 38) = false := by subst h; rfl
  have n24 : (op == 24) = false := by subst h; rfl
  have n39 : (op == 39) = false := by subst h; rfl
  have n25 : (op == 25) = false := by subst h; rfl
  have n40 : (op == 40) = false := by subst h; rfl
  have n26 : (op == 26) = false := by subst h; rfl
  have y43 : (op == 43) = true := by subst h; rfl
  clear h
  go_enter Tryd.func20, Tryd.ntmps20
  apply seq_to (W := w)
  · go_wp2_with fail
    exact At.mk
  apply seq_to (W := w)
  · apply seq_to (W := w)
    · go_wp2_with fail
      exact At.mk
    apply blk_catch
    apply seq_exit; apply blk_pass (by decide)
    apply seq_exit; apply blk_pass (by decide)
    apply seq_to (W := w)
    · skip
      apply blk_catch
      apply seq_exit; apply blk_pass (by decide)
      apply seq_exit; apply blk_pass (by decide)
      apply seq_exit; apply blk_pass (by decide)
      apply seq_exit; apply blk_pass (by decide)
      apply seq_exit; apply blk_pass (by decide)
      apply seq_exit; apply blk_pass (by decide)
      apply seq_exit; apply blk_pass (by decide)
      apply seq_exit; apply blk_pass (by decide)
      apply seq_exit; apply blk_pass (by decide)
      apply seq_exit; apply blk_pass (by decide)
      apply seq_exit; apply blk_pass (by decide)
      apply seq_exit; apply blk_pass (by decide)
      apply seq_exit; apply blk_pass (by decide)
      go_wp2_with fail
      exact At.mk
    go_wp2_with fail
    exact At.mk
  go_wp2_with fail
  go_ret2
  exact ⟨rfl, rfl⟩
theorem sum20_43 (a b : Int) (a0 : 0 ≤ a) (a1 : a < 18446744073709551616) (b0 : 0 ≤ b) (b1 : b < 18446744073709551616) (w : World) : Calls Tryd.prog 20 #[.int .i64 43, .int .u64 a, .int .u64 b] w fun e w' => e = .returned (.tuple #[.int .u64 (Pv 43 a b), .bool (isN32 43)]) ∧ w' = w := sum20s_43 43 a b rfl a0 a1 b0 b1 w
set_option maxRecDepth 20000 in
set_option maxHeartbeats 2000000 in
theorem sum20s_27 (op a b : Int) (h : op = 27) (_a0 : 0 ≤ a) (_a1 : a < 18446744073709551616) (_b0 : 0 ≤ b) (_b1 : b < 18446744073709551616) (w : World) : Calls Tryd.prog 20 #[.int .i64 op, .int .u64 a, .int .u64 b] w fun e w' => e = .returned (.tuple #[.int .u64 (Pv 27 a b), .bool (isN32 27)]) ∧ w' = w := by
  rw [Pv_27, N_27]
  have n31 : (op == 31) = false := by subst h; rfl
  have n45 : (op == 45) = false := by subst h; rfl
  have n22 : (op == 22) = false := by subst h; rfl
  have n35 : (op == 35) = false := by subst h; rfl
  have n46 : (op == 46) = false := by subst h; rfl
  have n36 : (op == 36) = false := by subst h; rfl
  have n32 : (op == 32) = false := by subst h; rfl
  have n47 : (op == 47) = false := by subst h; rfl
  have n28 : (op == 28) = false := by subst h; rfl
  have n37 : (op == 37) = false := by subst h; rfl
  have n33 : (op == 33) = false := by subst h; rfl
  have n48 : (op == 48) = false := by subst h; rfl
  have n29 : (op == 29) = false := by subst h; rfl
  have n41 : (op == 41) = false := by subst h; rfl
  have n34 : (op == 34) = false := by subst h; rfl
  have n49 : (op == 49) = false := by subst h; rfl
  have n30 : (op == 30) = false := by subst h; rfl
  have n42 : (op == 42) = false := by subst h; rfl
  have n23 : (op == 23) = false := by subst h; rfl
  have n38 : (op == 38) = false := by subst h; rfl
  have n24 : (op == 24) = false := by subst h; rfl
  have n39 : (op == 39) = false := by subst h; rfl
  have n25 : (op == 25) = false := by subst h; rfl
  have n40 : (op == 40) = false := by subst h; rfl
  have n26 : (op == 26) = false := by subst h; rfl
  have n43 : (op == 43) = false := by subst h; rfl
  have y27 : (op == 27) = true := by subst h; rfl
  clear h
  go_enter Tryd.func20, Tryd.ntmps20
  apply seq_to (W := w)
  · go_wp2_with fail
    exact At.mk
  apply seq_to (W := w)
  · apply seq_to (W := w)
    · go_wp2_with fail
      exact At.mk
    apply blk_catch
    apply seq_exit; apply blk_pass (by decide)
    apply seq_to (W := w)
    · skip
      apply blk_catch
      apply seq_exit; apply blk_pass (by decide)
      apply seq_exit; apply blk_pass (by decide)
      apply seq_exit; apply blk_pass (by decide)
      apply seq_exit; apply blk_pass (by decide)
      apply seq_exit; apply blk_pass (by decide)
      apply seq_exit; apply blk_pass (by decide)
      apply seq_exit; apply blk_pass (by decide)
      apply seq_exit; apply blk_pass (by decide)
      apply seq_exit; apply blk_pass (by decide)
      apply seq_exit; apply blk_pass (by decide)
      apply seq_exit; apply blk_pass (by decide)
      apply seq_exit; apply blk_pass (by decide)
      apply seq_exit; apply blk_pass (by decide)
      apply seq_exit; apply blk_pass (by decide)
      go_wp2_with fail
      exact At.mk
    go_wp2_with fail
    exact At.mk
  go_wp2_with fail
  go_ret2
  exact ⟨rfl, rfl⟩
theorem sum20_27 (a b : Int) (a0 : 0 ≤ a) (a1 : a < 18446744073709551616) (b0 : 0 ≤ b) (b1 : b < 18446744073709551616) (w : World) : Calls Tryd.prog 20 #[.int .i64 27, .int .u64 a, .int .u64 b] w fun e w' => e = .returned (.tuple #[.int .u64 (Pv 27 a b), .bool (isN32 27)]) ∧ w' = w := sum20s_27 27 a b rfl a0 a1 b0 b1 w
set_option maxRecDepth 20000 in
set_option maxHeartbeats 2000000 in
theorem sum20s_44 (op a b : Int) (h : op = 44) (_a0 : 0 ≤ a) (_a1 : a < 18446744073709551616) (_b0 : 0 ≤ b) (_b1 : b < 18446744073709551616) (w : World) : Calls Tryd.prog 20 #[.int .i64 op, .int .u64 a, .int .u64 b] w fun e w' => e = .returned (.tuple #[.int .u64 (Pv 44 a b), .bool (isN32 44)]) ∧ w' = w := by
  rw [Pv_44, N_44]
  have n31 : (op == 31) = false := by subst h; rfl
  have n45 : (op == 45) = false := by subst h; rfl
  have n22 : (op == 22) = false := by subst h; rfl
  have n35 : (op == 35) = false := by subst h; rfl
  have n46 : (op == 46) = false := by subst h; rfl
  have n36 : (op == 36) = false := by subst h; rfl
  have n32 : (op == 32) = false := by subst h; rfl
  have n47 : (op == 47) = false := by subst h; rfl
  have n28 : (op == 28) = false := by subst h; rfl
  have n37 : (op == 37) = false := by subst h; rfl
  have n33 : (op == 33) = false := by subst h; rfl
  have n48 : (op == 48) = false := by subst h; rfl
  have n29 : (op == 29) = false := by subst h; rfl
  have n41 : (op == 41) = false := by subst h; rfl
  have n34 : (op == 34) = false := by subst h; rfl
  have n49 : (op == 49) = false := by subst h; rfl
  have n30 : (op == 30) = false := by subst h; rfl
  have n42 : (op == 42) = false := by subst h; rfl
  have n23 : (op == 23) = false := by subst h; rfl
  have n38 : (op == 38) = false := by subst h; rfl
  have n24 : (op == 24) = false := by subst h; rfl
  have n39 : (op == 39) = false := by subst h; rfl
  have n25 : (op == 25) = false := by subst h; rfl
  have n40 : (op == 40) = false := by subst h; rfl
  have n26 : (op == 26) = false := by subst h; rfl
  have n43 : (op == 43) = false := by subst h; rfl
  have n27 : (op == 27) = false := by subst h; rfl
  have y44 : (op == 44) = true := by subst h; rfl
  clear h
  go_enter Tryd.func20, Tryd.ntmps20
  apply seq_to (W := w)
  · go_wp2_with fail
    exact At.mk
  apply seq_to (W := w)
  · apply seq_to (W := w)
    · go_wp2_with fail
      exact At.mk
    apply blk_catch
    apply seq_exit; apply blk_pass (by decide)
    apply seq_to (W := w)
    · skip
      apply blk_catch
      apply seq_exit; apply blk_pass (by decide)
      apply seq_exit; apply blk_pass (by decide)
      apply seq_exit; apply blk_pass (by decide)
      apply seq_exit; apply blk_pass (by decide)
      apply seq_exit; apply blk_pass (by decide)
      apply seq_exit; apply blk_pass (by decide)
      apply seq_exit; apply blk_pass (by decide)
      apply seq_exit; apply blk_pass (by decide)
      apply seq_exit; apply blk_pass (by decide)
      apply seq_exit; apply blk_pass (by decide)
      apply seq_exit; apply blk_pass (by decide)
      apply seq_exit; apply blk_pass (by decide)
      apply seq_exit; apply blk_pass (by decide)
      apply seq_exit; apply blk_pass (by decide)
      go_wp2_with fail
      exact At.mk
    go_wp2_with fail
    exact At.mk
  go_wp2_with fail
  go_ret2
  exact ⟨rfl, rfl⟩
theorem sum20_44 (a b : Int) (a0 : 0 ≤ a) (a1 : a < 18446744073709551616) (b0 : 0 ≤ b) (b1 : b < 18446744073709551616) (w : World) : Calls Tryd.prog 20 #[.int .i64 44, .int .u64 a, .int .u64 b] w fun e w' => e = .returned (.tuple #[.int .u64 (Pv 44 a b), .bool (isN32 44)]) ∧ w' = w := sum20s_44 44 a b rfl a0 a1 b0 b1 w
end Go.Proofs.YtnmpbihpoefeoaaDoor
