/- Operations of two numbers: sums, shifts, comparisons, bits. -/
import Derived.Test.YtnmpbihpoefeoaaDoorV3
namespace Go.Proofs.YtnmpbihpoefeoaaDoor
open Go.RowKit Go.Shelf
set_option maxRecDepth 20000 in
set_option maxHeartbeats 2000000 in
theorem sum20_33 (a b : Int) (a0 : 0 ≤ a) (a1 : a < 18446744073709551616) (b0 : 0 ≤ b) (b1 : b < 18446744073709551616) (w : World) : Calls Tryd.prog 20 #[.int .i64 33, .int .u64 a, .int .u64 b] w fun e w' => e = .returned (.tuple #[.int .u64 (Pv 33 a b), .bool (isN32 33)]) ∧ w' = w := by
  rw [Pv_33, N_33]
  go_enter Tryd.func20, Tryd.ntmps20
  go_wp2_with ((go_at_call 34; refine (unsigned34 _ _).mono ?_; rintro e w' ⟨rfl, rfl⟩))
  go_ret2
  exact ⟨rfl, rfl⟩
set_option maxRecDepth 20000 in
set_option maxHeartbeats 2000000 in
theorem sum20_48 (a b : Int) (a0 : 0 ≤ a) (a1 : a < 18446744073709551616) (b0 : 0 ≤ b) (b1 : b < 18446744073709551616) (w : World) : Calls Tryd.prog 20 #[.int .i64 48, .int .u64 a, .int .u64 b] w fun e w' => e = .returned (.tuple #[.int .u64 (Pv 48 a b), .bool (isN32 48)]) ∧ w' = w := by
  rw [Pv_48, N_48]
  go_enter Tryd.func20, Tryd.ntmps20
  go_wp2_with ((go_at_call 34; refine (unsigned34 _ _).mono ?_; rintro e w' ⟨rfl, rfl⟩))
  go_ret2
  exact ⟨rfl, rfl⟩
end Go.Proofs.YtnmpbihpoefeoaaDoor
