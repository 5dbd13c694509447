/- Operations of two numbers: the rest is product's. Operations of two numbers: products, quotients. Operations of two numbers: products, quotients. Operations of two numbers: products, quotients. -/
import Derived.Test.YtnmpbihpoefeoaaDoorVB
import Derived.Test.YtnmpbihpoefeoaaDoorVC
namespace Go.Proofs.YtnmpbihpoefeoaaDoor
section
open Go.RowKit Go.Shelf
set_option maxRecDepth 20000 in
set_option maxHeartbeats 2000000 in
theorem sum20_p (op a b v : Int) (n : Bool) (h1 : 50 ≤ op) (w : World) (hp : Calls Tryd.prog 36 #[.int .i64 op, .int .u64 a, .int .u64 b] w fun e w' => e = .returned (.tuple #[.int .u64 v, .bool n]) ∧ ∃ m, w' = w.drewN m) : Calls Tryd.prog 20 #[.int .i64 op, .int .u64 a, .int .u64 b] w fun e w' => e = .returned (.tuple #[.int .u64 v, .bool n]) ∧ ∃ m, w' = w.drewN m := by
  have n31 : (op == 31) = false := by simp; omega
  have n45 : (op == 45) = false := by simp; omega
  have n22 : (op == 22) = false := by simp; omega
  have n35 : (op == 35) = false := by simp; omega
  have n46 : (op == 46) = false := by simp; omega
  have n36 : (op == 36) = false := by simp; omega
  have n32 : (op == 32) = false := by simp; omega
  have n47 : (op == 47) = false := by simp; omega
  have n28 : (op == 28) = false := by simp; omega
  have n37 : (op == 37) = false := by simp; omega
  have n33 : (op == 33) = false := by simp; omega
  have n48 : (op == 48) = false := by simp; omega
  have n29 : (op == 29) = false := by simp; omega
  have n41 : (op == 41) = false := by simp; omega
  have n34 : (op == 34) = false := by simp; omega
  have n49 : (op == 49) = false := by simp; omega
  have n30 : (op == 30) = false := by simp; omega
  have n42 : (op == 42) = false := by simp; omega
  have n23 : (op == 23) = false := by simp; omega
  have n38 : (op == 38) = false := by simp; omega
  have n24 : (op == 24) = false := by simp; omega
  have n39 : (op == 39) = false := by simp; omega
  have n25 : (op == 25) = false := by simp; omega
  have n40 : (op == 40) = false := by simp; omega
  have n26 : (op == 26) = false := by simp; omega
  have n43 : (op == 43) = false := by simp; omega
  have n27 : (op == 27) = false := by simp; omega
  have n44 : (op == 44) = false := by simp; omega
  have HP : Hid (Calls Tryd.prog 36 #[.int .i64 op, .int .u64 a, .int .u64 b] w fun e w' => e = .returned (.tuple #[.int .u64 v, .bool n]) ∧ ∃ m, w' = w.drewN m) := hp
  clear hp
  go_enter Tryd.func20, Tryd.ntmps20
  go_wp2_with ((go_at_call 36; refine HP.out.mono ?_; rintro e w' ⟨rfl, m, rfl⟩))
  go_ret2
  exact ⟨rfl, m, rfl⟩
end
section
open Go.RowKit Go.Shelf
set_option maxRecDepth 20000 in
set_option maxHeartbeats 2000000 in
theorem prod36_58 (a b : Int) (_a0 : 0 ≤ a) (_a1 : a < 18446744073709551616) (_b0 : 0 ≤ b) (_b1 : b < 18446744073709551616) (w : World) : Calls Tryd.prog 36 #[.int .i64 58, .int .u64 a, .int .u64 b] w fun e w' => e = .returned (.tuple #[.int .u64 (Pv 58 a b), .bool (isN32 58)]) ∧ ∃ m, w' = w.drewN m := by
  rw [Pv_58, N_58]
  go_enter Tryd.func36, Tryd.ntmps36
  go_wp2_with fail
  go_ret2
  exact ⟨rfl, 0, rfl⟩
set_option maxRecDepth 20000 in
set_option maxHeartbeats 2000000 in
theorem prod36_50 (a b : Int) (_a0 : 0 ≤ a) (_a1 : a < 18446744073709551616) (_b0 : 0 ≤ b) (_b1 : b < 18446744073709551616) (w : World) : Calls Tryd.prog 36 #[.int .i64 50, .int .u64 a, .int .u64 b] w fun e w' => e = .returned (.tuple #[.int .u64 (Pv 50 a b), .bool (isN32 50)]) ∧ ∃ m, w' = w.drewN m := by
  rw [Pv_50, N_50]
  go_enter Tryd.func36, Tryd.ntmps36
  go_wp2_with fail
  go_ret2
  exact ⟨rfl, 0, rfl⟩
set_option maxRecDepth 20000 in
set_option maxHeartbeats 2000000 in
theorem prod36_53 (a b : Int) (a0 : 0 ≤ a) (a1 : a < 18446744073709551616) (b0 : 0 ≤ b) (b1 : b < 18446744073709551616) (w : World) : Calls Tryd.prog 36 #[.int .i64 53, .int .u64 a, .int .u64 b] w fun e w' => e = .returned (.tuple #[.int .u64 (Pv 53 a b), .bool (isN32 53)]) ∧ ∃ m, w' = w.drewN m := by
  rw [Pv_53, N_53]
  go_enter Tryd.func36, Tryd.ntmps36
  go_wp2_with (first | (go_at_call 48; refine (high48' a b a0 a1 b0 b1 _).mono ?_; rintro e w' ⟨rfl, rfl⟩) | fail)
  go_ret2
  exact ⟨rfl, 0, rfl⟩
set_option maxRecDepth 20000 in
set_option maxHeartbeats 2000000 in
theorem prod36_52 (a b : Int) (a0 : 0 ≤ a) (a1 : a < 18446744073709551616) (b0 : 0 ≤ b) (b1 : b < 18446744073709551616) (w : World) : Calls Tryd.prog 36 #[.int .i64 52, .int .u64 a, .int .u64 b] w fun e w' => e = .returned (.tuple #[.int .u64 (Pv 52 a b), .bool (isN32 52)]) ∧ ∃ m, w' = w.drewN m := by
  rw [Pv_52, N_52]
  go_enter Tryd.func36, Tryd.ntmps36
  go_wp2_with (first | (go_at_call 48; refine (high48' a b a0 a1 b0 b1 _).mono ?_; rintro e w' ⟨rfl, rfl⟩) | (go_at_call 49; refine (negative49 _ _ _).mono ?_; rintro e w' ⟨rfl, rfl⟩) | fail)
  go_ret2
  exact ⟨rfl, 0, rfl⟩
set_option maxRecDepth 20000 in
set_option maxHeartbeats 2000000 in
theorem prod36_51 (a b : Int) (a0 : 0 ≤ a) (a1 : a < 18446744073709551616) (b0 : 0 ≤ b) (b1 : b < 18446744073709551616) (w : World) : Calls Tryd.prog 36 #[.int .i64 51, .int .u64 a, .int .u64 b] w fun e w' => e = .returned (.tuple #[.int .u64 (Pv 51 a b), .bool (isN32 51)]) ∧ ∃ m, w' = w.drewN m := by
  rw [Pv_51, N_51]
  go_enter Tryd.func36, Tryd.ntmps36
  go_wp2_with (first | (go_at_call 48; refine (high48' a b a0 a1 b0 b1 _).mono ?_; rintro e w' ⟨rfl, rfl⟩) | (go_at_call 49; refine (negative49 _ _ _).mono ?_; rintro e w' ⟨rfl, rfl⟩) | fail)
  go_ret2
  exact ⟨rfl, 0, rfl⟩
end
section
open Go.RowKit Go.Shelf
set_option maxRecDepth 20000 in
set_option maxHeartbeats 2000000 in
theorem prod36_54 (a b : Int) (_a0 : 0 ≤ a) (_a1 : a < 18446744073709551616) (b0 : 0 ≤ b) (b1 : b < 18446744073709551616) (w : World) : Calls Tryd.prog 36 #[.int .i64 54, .int .u64 a, .int .u64 b] w fun e w' => e = .returned (.tuple #[.int .u64 (Pv 54 a b), .bool (isN32 54)]) ∧ ∃ m, w' = w.drewN m := by
  rw [Pv_54, N_54]
  go_enter Tryd.func36, Tryd.ntmps36
  go_wp2_with (first | (go_at_call 50; refine (quot50 a b b0 b1 _).mono ?_; rintro e w' ⟨rfl, m, rfl⟩) | fail)
  go_ret2
  exact ⟨rfl, m, rfl⟩
set_option maxRecDepth 20000 in
set_option maxHeartbeats 2000000 in
theorem prod36_56 (a b : Int) (_a0 : 0 ≤ a) (_a1 : a < 18446744073709551616) (b0 : 0 ≤ b) (b1 : b < 18446744073709551616) (w : World) : Calls Tryd.prog 36 #[.int .i64 56, .int .u64 a, .int .u64 b] w fun e w' => e = .returned (.tuple #[.int .u64 (Pv 56 a b), .bool (isN32 56)]) ∧ ∃ m, w' = w.drewN m := by
  rw [Pv_56, N_56]
  go_enter Tryd.func36, Tryd.ntmps36
  go_wp2_with (first | (go_at_call 50; refine (quot50 a b b0 b1 _).mono ?_; rintro e w' ⟨rfl, m, rfl⟩) | fail)
  go_ret2
  exact ⟨rfl, m, rfl⟩
set_option maxRecDepth 20000 in
set_option maxHeartbeats 2000000 in
theorem prod36_55 (a b : Int) (a0 : 0 ≤ a) (a1 : a < 18446744073709551616) (b0 : 0 ≤ b) (b1 : b < 18446744073709551616) (w : World) : Calls Tryd.prog 36 #[.int .i64 55, .int .u64 a, .int .u64 b] w fun e w' => e = .returned (.tuple #[.int .u64 (Pv 55 a b), .bool (isN32 55)]) ∧ ∃ m, w' = w.drewN m := by
  rw [Pv_55, N_55]
  go_enter Tryd.func36, Tryd.ntmps36
  go_wp2_with (first | (go_at_call 51; refine (quot51 a b a0 a1 b0 b1 _).mono ?_; rintro e w' ⟨rfl, m, rfl⟩) | fail)
  go_ret2
  exact ⟨rfl, m, rfl⟩
set_option maxRecDepth 20000 in
set_option maxHeartbeats 2000000 in
theorem prod36_57 (a b : Int) (a0 : 0 ≤ a) (a1 : a < 18446744073709551616) (b0 : 0 ≤ b) (b1 : b < 18446744073709551616) (w : World) : Calls Tryd.prog 36 #[.int .i64 57, .int .u64 a, .int .u64 b] w fun e w' => e = .returned (.tuple #[.int .u64 (Pv 57 a b), .bool (isN32 57)]) ∧ ∃ m, w' = w.drewN m := by
  rw [Pv_57, N_57]
  go_enter Tryd.func36, Tryd.ntmps36
  go_wp2_with (first | (go_at_call 51; refine (quot51 a b a0 a1 b0 b1 _).mono ?_; rintro e w' ⟨rfl, m, rfl⟩) | fail)
  go_ret2
  exact ⟨rfl, m, rfl⟩
end
section
open Go.RowKit Go.Shelf
set_option maxRecDepth 20000 in
set_option maxHeartbeats 2000000 in
theorem prod36_59 (a b : Int) (_a0 : 0 ≤ a) (_a1 : a < 18446744073709551616) (_b0 : 0 ≤ b) (_b1 : b < 18446744073709551616) (w : World) : Calls Tryd.prog 36 #[.int .i64 59, .int .u64 a, .int .u64 b] w fun e w' => e = .returned (.tuple #[.int .u64 (Pv 59 a b), .bool (isN32 59)]) ∧ ∃ m, w' = w.drewN m := by
  rw [Pv_59, N_59]
  go_enter Tryd.func36, Tryd.ntmps36
  go_wp2_with (first | (go_at_call 21; refine (signed21 _ _).mono ?_; rintro e w' ⟨rfl, rfl⟩) | (go_at_call 50; refine (quot50 (s32 a) (s32 b) (s32_range b).1 (s32_range b).2 _).mono ?_; rintro e w' ⟨rfl, m, rfl⟩) | fail)
  go_ret2
  exact ⟨rfl, m, rfl⟩
set_option maxRecDepth 20000 in
set_option maxHeartbeats 2000000 in
theorem prod36_60 (a b : Int) (_a0 : 0 ≤ a) (_a1 : a < 18446744073709551616) (_b0 : 0 ≤ b) (_b1 : b < 18446744073709551616) (w : World) : Calls Tryd.prog 36 #[.int .i64 60, .int .u64 a, .int .u64 b] w fun e w' => e = .returned (.tuple #[.int .u64 (Pv 60 a b), .bool (isN32 60)]) ∧ ∃ m, w' = w.drewN m := by
  rw [Pv_60, N_60]
  go_enter Tryd.func36, Tryd.ntmps36
  go_wp2_with (first | (go_at_call 34; refine (unsigned34 _ _).mono ?_; rintro e w' ⟨rfl, rfl⟩) | (go_at_call 51; refine (quot51 (a % 4294967296) (b % 4294967296) (lo_range a).1 (lo_range a).2 (lo_range b).1 (lo_range b).2 _).mono ?_; rintro e w' ⟨rfl, m, rfl⟩) | fail)
  go_ret2
  exact ⟨rfl, m, rfl⟩
set_option maxRecDepth 20000 in
set_option maxHeartbeats 2000000 in
theorem prod36_61 (a b : Int) (_a0 : 0 ≤ a) (_a1 : a < 18446744073709551616) (_b0 : 0 ≤ b) (_b1 : b < 18446744073709551616) (w : World) : Calls Tryd.prog 36 #[.int .i64 61, .int .u64 a, .int .u64 b] w fun e w' => e = .returned (.tuple #[.int .u64 (Pv 61 a b), .bool (isN32 61)]) ∧ ∃ m, w' = w.drewN m := by
  rw [Pv_61, N_61]
  go_enter Tryd.func36, Tryd.ntmps36
  go_wp2_with (first | (go_at_call 21; refine (signed21 _ _).mono ?_; rintro e w' ⟨rfl, rfl⟩) | (go_at_call 50; refine (quot50 (s32 a) (s32 b) (s32_range b).1 (s32_range b).2 _).mono ?_; rintro e w' ⟨rfl, m, rfl⟩) | fail)
  go_ret2
  exact ⟨rfl, m, rfl⟩
set_option maxRecDepth 20000 in
set_option maxHeartbeats 2000000 in
theorem prod36_62 (a b : Int) (_a0 : 0 ≤ a) (_a1 : a < 18446744073709551616) (_b0 : 0 ≤ b) (_b1 : b < 18446744073709551616) (w : World) : Calls Tryd.prog 36 #[.int .i64 62, .int .u64 a, .int .u64 b] w fun e w' => e = .returned (.tuple #[.int .u64 (Pv 62 a b), .bool (isN32 62)]) ∧ ∃ m, w' = w.drewN m := by
  rw [Pv_62, N_62]
  go_enter Tryd.func36, Tryd.ntmps36
  go_wp2_with (first | (go_at_call 34; refine (unsigned34 _ _).mono ?_; rintro e w' ⟨rfl, rfl⟩) | (go_at_call 51; refine (quot51 (a % 4294967296) (b % 4294967296) (lo_range a).1 (lo_range a).2 (lo_range b).1 (lo_range b).2 _).mono ?_; rintro e w' ⟨rfl, m, rfl⟩) | fail)
  go_ret2
  exact ⟨rfl, m, rfl⟩
end
end Go.Proofs.YtnmpbihpoefeoaaDoor
