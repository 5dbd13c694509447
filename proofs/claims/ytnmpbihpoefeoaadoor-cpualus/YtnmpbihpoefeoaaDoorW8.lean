/- Operations of two numbers: sums, shifts, comparisons, bits. -/
import Derived.Test.YtnmpbihpoefeoaaDoorV3
namespace Go.Proofs.YtnmpbihpoefeoaaDoor
open Go.RowKit Go.Shelf
set_option maxRecDepth 20000 in
set_option maxHeartbeats 2000000 in
theorem sum20_30 (a b : Int) (a0 : 0 ≤ a) (a1 : a < 18446744073709551616) (b0 : 0 ≤ b) (b1 : b < 18446744073709551616) (w : World) : Calls Tryd.prog 20 #[.int .i64 30, .int .u64 a, .int .u64 b] w fun e w' => e = .returned (.tuple #[.int .u64 (Pv 30 a b), .bool (isN32 30)]) ∧ w' = w := by
  rw [Pv_30, N_30]
  go_enter Tryd.func20, Tryd.ntmps20
  go_wp2_with fail
  go_ret2
  exact ⟨rfl, rfl⟩
set_option maxRecDepth 20000 in
set_option maxHeartbeats 2000000 in
theorem sum20_42 (a b : Int) (a0 : 0 ≤ a) (a1 : a < 18446744073709551616) (b0 : 0 ≤ b) (b1 : b < 18446744073709551616) (w : World) : Calls Tryd.prog 20 #[.int .i64 42, .int .u64 a, .int .u64 b] w fun e w' => e = .returned (.tuple #[.int .u64 (Pv 42 a b), .bool (isN32 42)]) ∧ w' = w := by
  rw [Pv_42, N_42]
  go_enter Tryd.func20, Tryd.ntmps20
  go_wp2_with fail
  go_ret2
  exact ⟨rfl, rfl⟩
end Go.Proofs.YtnmpbihpoefeoaaDoor
