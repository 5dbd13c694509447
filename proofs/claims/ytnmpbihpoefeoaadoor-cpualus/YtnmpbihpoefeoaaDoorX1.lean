/- Operations of two numbers: products, quotients. -/
import Derived.Test.YtnmpbihpoefeoaaDoorV4
namespace Go.Proofs.YtnmpbihpoefeoaaDoor
open Go.RowKit Go.Shelf
set_option maxRecDepth 20000 in
set_option maxHeartbeats 2000000 in
theorem prod36_54 (a b : Int) (_a0 : 0 ≤ a) (_a1 : a < 18446744073709551616) (b0 : 0 ≤ b) (b1 : b < 18446744073709551616) (w : World) : Calls Tryd.prog 36 #[.int .i64 54, .int .u64 a, .int .u64 b] w fun e w' => e = .returned (.tuple #[.int .u64 (Pv 54 a b), .bool (isN32 54)]) ∧ ∃ m, w' = w.drewN m := by
  rw [Pv_54, N_54]
  go_enter Tryd.func36, Tryd.ntmps36
  go_wp2_with (first | (go_at_call 50; refine (quot50 a b b0 b1 _).mono ?_; rintro e w' ⟨rfl, m, rfl⟩) | fail)
  go_ret2
  exact ⟨rfl, m, rfl⟩
set_option maxRecDepth 20000 in
set_option maxHeartbeats 2000000 in
theorem prod36_56 (a b : Int) (_a0 : 0 ≤ a) (_a1 : a < 18446744073709551616) (b0 : 0 ≤ b) (b1 : b < 18446744073709551616) (w : World) : Calls Tryd.prog 36 #[.int .i64 56, .int .u64 a, .int .u64 b] w fun e w' => e = .returned (.tuple #[.int .u64 (Pv 56 a b), .bool (isN32 56)]) ∧ ∃ m, w' = w.drewN m := by
  rw [Pv_56, N_56]
  go_enter Tryd.func36, Tryd.ntmps36
  go_wp2_with (first | (go_at_call 50; refine (quot50 a b b0 b1 _).mono ?_; rintro e w' ⟨rfl, m, rfl⟩) | fail)
  go_ret2
  exact ⟨rfl, m, rfl⟩
set_option maxRecDepth 20000 in
set_option maxHeartbeats 2000000 in
theorem prod36_55 (a b : Int) (a0 : 0 ≤ a) (a1 : a < 18446744073709551616) (b0 : 0 ≤ b) (b1 : b < 18446744073709551616) (w : World) : Calls Tryd.prog 36 #[.int .i64 55, .int .u64 a, .int .u64 b] w fun e w' => e = .returned (.tuple #[.int .u64 (Pv 55 a b), .bool (isN32 55)]) ∧ ∃ m, w' = w.drewN m := by
  rw [Pv_55, N_55]
  go_enter Tryd.func36, Tryd.ntmps36
  go_wp2_with (first | (go_at_call 51; refine (quot51 a b a0 a1 b0 b1 _).mono ?_; rintro e w' ⟨rfl, m, rfl⟩) | fail)
  go_ret2
  exact ⟨rfl, m, rfl⟩
set_option maxRecDepth 20000 in
set_option maxHeartbeats 2000000 in
theorem prod36_57 (a b : Int) (a0 : 0 ≤ a) (a1 : a < 18446744073709551616) (b0 : 0 ≤ b) (b1 : b < 18446744073709551616) (w : World) : Calls Tryd.prog 36 #[.int .i64 57, .int .u64 a, .int .u64 b] w fun e w' => e = .returned (.tuple #[.int .u64 (Pv 57 a b), .bool (isN32 57)]) ∧ ∃ m, w' = w.drewN m := by
  rw [Pv_57, N_57]
  go_enter Tryd.func36, Tryd.ntmps36
  go_wp2_with (first | (go_at_call 51; refine (quot51 a b a0 a1 b0 b1 _).mono ?_; rintro e w' ⟨rfl, m, rfl⟩) | fail)
  go_ret2
  exact ⟨rfl, m, rfl⟩
end Go.Proofs.YtnmpbihpoefeoaaDoor
