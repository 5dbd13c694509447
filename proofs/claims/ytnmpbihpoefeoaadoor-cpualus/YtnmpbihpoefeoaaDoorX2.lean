/- Operations of two numbers: products, quotients. -/
import Derived.Test.YtnmpbihpoefeoaaDoorV4
namespace Go.Proofs.YtnmpbihpoefeoaaDoor
open Go.RowKit Go.Shelf
set_option maxRecDepth 20000 in
set_option maxHeartbeats 2000000 in
theorem prod36_59 (a b : Int) (_a0 : 0 ≤ a) (_a1 : a < 18446744073709551616) (_b0 : 0 ≤ b) (_b1 : b < 18446744073709551616) (w : World) : Calls Tryd.prog 36 #[.int .i64 59, .int .u64 a, .int .u64 b] w fun e w' => e = .returned (.tuple #[.int .u64 (Pv 59 a b), .bool (isN32 59)]) ∧ ∃ m, w' = w.drewN m := by
  rw [Pv_59, N_59]
  go_enter Tryd.func36, Tryd.ntmps36
  go_wp2_with (first | (go_at_call 21; refine (signed21 _ _).mono ?_; rintro e w' ⟨rfl, rfl⟩) | (go_at_call 50; refine (quot50 (s32 a) (s32 b) (s32_range b).1 (s32_range b).2 _).mono ?_; rintro e w' ⟨rfl, m, rfl⟩) | fail)
  go_ret2
  exact ⟨rfl, m, rfl⟩
set_option maxRecDepth 20000 in
set_option maxHeartbeats 2000000 in
theorem prod36_60 (a b : Int) (_a0 : 0 ≤ a) (_a1 : a < 18446744073709551616) (_b0 : 0 ≤ b) (_b1 : b < 18446744073709551616) (w : World) : Calls Tryd.prog 36 #[.int .i64 60, .int .u64 a, .int .u64 b] w fun e w' => e = .returned (.tuple #[.int .u64 (Pv 60 a b), .bool (isN32 60)]) ∧ ∃ m, w' = w.drewN m := by
  rw [Pv_60, N_60]
  go_enter Tryd.func36, Tryd.ntmps36
  go_wp2_with (first | (go_at_call 34; refine (unsigned34 _ _).mono ?_; rintro e w' ⟨rfl, rfl⟩) | (go_at_call 51; refine (quot51 (a % 4294967296) (b % 4294967296) (lo_range a).1 (lo_range a).2 (lo_range b).1 (lo_range b).2 _).mono ?_; rintro e w' ⟨rfl, m, rfl⟩) | fail)
  go_ret2
  exact ⟨rfl, m, rfl⟩
set_option maxRecDepth 20000 in
set_option maxHeartbeats 2000000 in
theorem prod36_61 (a b : Int) (_a0 : 0 ≤ a) (_a1 : a < 18446744073709551616) (_b0 : 0 ≤ b) (_b1 : b < 18446744073709551616) (w : World) : Calls Tryd.prog 36 #[.int .i64 61, .int .u64 a, .int .u64 b] w fun e w' => e = .returned (.tuple #[.int .u64 (Pv 61 a b), .bool (isN32 61)]) ∧ ∃ m, w' = w.drewN m := by
  rw [Pv_61, N_61]
  go_enter Tryd.func36, Tryd.ntmps36
  go_wp2_with (first | (go_at_call 21; refine (signed21 _ _).mono ?_; rintro e w' ⟨rfl, rfl⟩) | (go_at_call 50; refine (quot50 (s32 a) (s32 b) (s32_range b).1 (s32_range b).2 _).mono ?_; rintro e w' ⟨rfl, m, rfl⟩) | fail)
  go_ret2
  exact ⟨rfl, m, rfl⟩
set_option maxRecDepth 20000 in
set_option maxHeartbeats 2000000 in
theorem prod36_62 (a b : Int) (_a0 : 0 ≤ a) (_a1 : a < 18446744073709551616) (_b0 : 0 ≤ b) (_b1 : b < 18446744073709551616) (w : World) : Calls Tryd.prog 36 #[.int .i64 62, .int .u64 a, .int .u64 b] w fun e w' => e = .returned (.tuple #[.int .u64 (Pv 62 a b), .bool (isN32 62)]) ∧ ∃ m, w' = w.drewN m := by
  rw [Pv_62, N_62]
  go_enter Tryd.func36, Tryd.ntmps36
  go_wp2_with (first | (go_at_call 34; refine (unsigned34 _ _).mono ?_; rintro e w' ⟨rfl, rfl⟩) | (go_at_call 51; refine (quot51 (a % 4294967296) (b % 4294967296) (lo_range a).1 (lo_range a).2 (lo_range b).1 (lo_range b).2 _).mono ?_; rintro e w' ⟨rfl, m, rfl⟩) | fail)
  go_ret2
  exact ⟨rfl, m, rfl⟩
end Go.Proofs.YtnmpbihpoefeoaaDoor
