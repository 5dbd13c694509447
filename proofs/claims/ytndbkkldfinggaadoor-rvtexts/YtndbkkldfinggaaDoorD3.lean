/- Walks of the program's gather and taken: what each answers. -/
import Derived.Test.YtndbkkldfinggaaDoorD1
import Derived.Test.YtndbkkldfinggaaDoorBack
namespace Go.Proofs.YtndbkkldfinggaaDoor
open Go.RowKit
set_option maxHeartbeats 1000000 in
theorem gather47_U (n : Int) (h0 : 0 ≤ n) (h1 : n < 4294967296) (w : World) : Calls Tryd.prog 47 #[.int .u8 85, .int .u32 n] w fun e w' => e = .returned (.int .i64 (gth 85 n)) ∧ w' = w := by
  have e1 := pv_12_20_0 n
  go_enter Tryd.func47, Tryd.ntmps47
  go_wp2_with (first | (go_at_call 42; refine (part42 n _ _ _ (by unfold Pt; decide) h0 h1 _).mono ?_; rintro e w' ⟨rfl, rfl⟩) | (go_at_call 56; refine (signed56_20 _ (by omega) (by omega) _).mono ?_; rintro e w' ⟨rfl, rfl⟩))
  go_ret
  exact ⟨rfl, rfl⟩
set_option maxHeartbeats 1000000 in
theorem gather47_J (n : Int) (h0 : 0 ≤ n) (h1 : n < 4294967296) (w : World) : Calls Tryd.prog 47 #[.int .u8 74, .int .u32 n] w fun e w' => e = .returned (.int .i64 (gth 74 n)) ∧ w' = w := by
  have e1 := pv_12_8_12 n
  have e2 := pv_20_1_11 n
  have e3 := pv_21_10_1 n
  have e4 := pv_31_1_20 n
  have hx := raw_J n
  obtain ⟨b0, b1⟩ : 0 ≤ raw 74 n ∧ raw 74 n < 2097152 := by
    have e : raw 74 n = n / 4096 % 256 * 4096 + n / 1048576 % 2 * 2048 + n / 2097152 % 1024 * 2 + n / 2147483648 % 2 * 1048576 := rfl
    omega
  have eg : gth 74 n = sg 21 (raw 74 n) := rfl
  rw [eg]
  clear eg
  generalize raw 74 n = x at *
  go_enter Tryd.func47, Tryd.ntmps47
  go_wp2_with (first | (go_at_call 42; refine (part42 n _ _ _ (by unfold Pt; decide) h0 h1 _).mono ?_; rintro e w' ⟨rfl, rfl⟩) | (go_at_call 56; refine (signed56_21 x b0 b1 _).mono ?_; rintro e w' ⟨rfl, rfl⟩))
  go_ret
  exact ⟨rfl, rfl⟩
set_option maxHeartbeats 1000000 in
theorem gather47_S (n : Int) (h0 : 0 ≤ n) (h1 : n < 4294967296) (w : World) : Calls Tryd.prog 47 #[.int .u8 83, .int .u32 n] w fun e w' => e = .returned (.int .i64 (gth 83 n)) ∧ w' = w := by
  have e1 := pv_7_5_0 n
  have e2 := pv_25_7_5 n
  have hx := raw_S n
  obtain ⟨b0, b1⟩ : 0 ≤ raw 83 n ∧ raw 83 n < 4096 := by
    have e : raw 83 n = n / 128 % 32 + n / 33554432 % 128 * 32 := rfl
    omega
  have eg : gth 83 n = sg 12 (raw 83 n) := rfl
  rw [eg]
  clear eg
  generalize raw 83 n = x at *
  go_enter Tryd.func47, Tryd.ntmps47
  go_wp2_with (first | (go_at_call 42; refine (part42 n _ _ _ (by unfold Pt; decide) h0 h1 _).mono ?_; rintro e w' ⟨rfl, rfl⟩) | (go_at_call 56; refine (signed56_12 x b0 b1 _).mono ?_; rintro e w' ⟨rfl, rfl⟩))
  go_ret
  exact ⟨rfl, rfl⟩
set_option maxHeartbeats 1000000 in
theorem gather47_B (n : Int) (h0 : 0 ≤ n) (h1 : n < 4294967296) (w : World) : Calls Tryd.prog 47 #[.int .u8 66, .int .u32 n] w fun e w' => e = .returned (.int .i64 (gth 66 n)) ∧ w' = w := by
  have e1 := pv_8_4_1 n
  have e2 := pv_25_6_5 n
  have e3 := pv_7_1_11 n
  have e4 := pv_31_1_12 n
  have hx := raw_B n
  obtain ⟨b0, b1⟩ : 0 ≤ raw 66 n ∧ raw 66 n < 8192 := by
    have e : raw 66 n = n / 256 % 16 * 2 + n / 33554432 % 64 * 32 + n / 128 % 2 * 2048 + n / 2147483648 % 2 * 4096 := rfl
    omega
  have eg : gth 66 n = sg 13 (raw 66 n) := rfl
  rw [eg]
  clear eg
  generalize raw 66 n = x at *
  go_enter Tryd.func47, Tryd.ntmps47
  go_wp2_with (first | (go_at_call 42; refine (part42 n _ _ _ (by unfold Pt; decide) h0 h1 _).mono ?_; rintro e w' ⟨rfl, rfl⟩) | (go_at_call 56; refine (signed56_13 x b0 b1 _).mono ?_; rintro e w' ⟨rfl, rfl⟩))
  go_ret
  exact ⟨rfl, rfl⟩
set_option maxHeartbeats 1000000 in
theorem gather47_I (n : Int) (h0 : 0 ≤ n) (h1 : n < 4294967296) (l : Int) (hl : l = 73 ∨ l = 76) (w : World) : Calls Tryd.prog 47 #[.int .u8 l, .int .u32 n] w fun e w' => e = .returned (.int .i64 (gth l n)) ∧ w' = w := by
  have e1 := pv_20_12_0 n
  rcases hl with rfl | rfl
  all_goals
    go_enter Tryd.func47, Tryd.ntmps47
    go_wp2_with (first | (go_at_call 42; refine (part42 n _ _ _ (by unfold Pt; decide) h0 h1 _).mono ?_; rintro e w' ⟨rfl, rfl⟩) | (go_at_call 56; refine (signed56_12 _ (by omega) (by omega) _).mono ?_; rintro e w' ⟨rfl, rfl⟩))
    go_ret
    exact ⟨rfl, rfl⟩
set_option maxHeartbeats 1000000 in
theorem gather47_H (n : Int) (h0 : 0 ≤ n) (h1 : n < 4294967296) (l : Int) (hl : l = 72 ∨ l = 87 ∨ l = 82 ∨ l = 78) (w : World) : Calls Tryd.prog 47 #[.int .u8 l, .int .u32 n] w fun e w' => e = .returned (.int .i64 (gth l n)) ∧ w' = w := by
  have e1 := pv_20_6_0 n
  have e2 := pv_20_5_0 n
  rcases hl with rfl | rfl | rfl | rfl
  all_goals
    go_enter Tryd.func47, Tryd.ntmps47
    go_wp2_with (first | (go_at_call 42; refine (part42 n _ _ _ (by unfold Pt; decide) h0 h1 _).mono ?_; rintro e w' ⟨rfl, rfl⟩))
    go_ret
    exact ⟨rfl, rfl⟩
theorem gather47 (l n : Int) (hl : IsL l) (h0 : 0 ≤ n) (h1 : n < 4294967296) (w : World) : Calls Tryd.prog 47 #[.int .u8 l, .int .u32 n] w fun e w' => e = .returned (.int .i64 (gth l n)) ∧ w' = w := by
  rcases hl with rfl | rfl | rfl | rfl | rfl | rfl | rfl | rfl | rfl | rfl
  · exact gather47_U n h0 h1 w
  · exact gather47_J n h0 h1 w
  · exact gather47_I n h0 h1 73 (by omega) w
  · exact gather47_I n h0 h1 76 (by omega) w
  · exact gather47_H n h0 h1 72 (by omega) w
  · exact gather47_H n h0 h1 87 (by omega) w
  · exact gather47_S n h0 h1 w
  · exact gather47_B n h0 h1 w
  · exact gather47_H n h0 h1 82 (by omega) w
  · exact gather47_H n h0 h1 78 (by omega) w

set_option maxHeartbeats 1000000 in
theorem taken32_core (op l n gi : Int) (hl : IsL l) (h0 : 0 ≤ n) (h1 : n < 4294967296) (hg : gth l n = gi) (w : World) (b1 b2 b3 : Bool) (e1 : nRd l = b1) (e2 : nR1 l = b2) (e3 : nR2 l = b3) :
    Calls Tryd.prog 32 #[.int .i64 op, .int .u8 l, .int .u32 n] w fun e w' => e = .returned (.agg #[.int .i64 op, .int .i64 (if b1 = true then n / 128 % 32 else 0), .int .i64 (if b2 = true then n / 32768 % 32 else 0), .int .i64 (if b3 = true then n / 1048576 % 32 else 0), .int .i64 gi]) ∧ Below w.heap.size w w' := by
  have p1 := pv_7_5_0 n
  have p2 := pv_15_5_0 n
  have p3 := pv_20_5_0 n
  cases b1 <;> cases b2 <;> cases b3 <;> simp only [Bool.false_eq_true, if_false, if_true]
  all_goals
    go_enter Tryd.func32, Tryd.ntmps32
    go_wp2_with (first | (go_at_call 42; refine (part42 n _ _ _ (by unfold Pt; decide) h0 h1 _).mono ?_; rintro e w' ⟨rfl, rfl⟩) | (go_at_call 47; refine (gather47 l n hl h0 h1 _).mono ?_; rw [hg]; rintro e w' ⟨rfl, rfl⟩) | (go_at_call 44; refine (registers44 l hl _).mono ?_; rw [e1, e2, e3]; rintro e w' ⟨rfl, rfl⟩))
    refine bodyPost_ret (by simp [results, Tryd.results32, go_sem]) rfl ⟨rfl, ?_⟩
    (repeat (first | exact Below.refl _ _ | refine Below.drew ?_ | refine Below.alloc ?_ (by simp <;> omega) _ | refine Below.setCell ?_ (by simp) _))
theorem taken32 (op l n : Int) (hl : IsL l) (h0 : 0 ≤ n) (h1 : n < 4294967296) (w : World) :
    Calls Tryd.prog 32 #[.int .i64 op, .int .u8 l, .int .u32 n] w fun e w' => e = .returned (.agg #[.int .i64 op, .int .i64 (gRd l n), .int .i64 (gR1 l n), .int .i64 (gR2 l n), .int .i64 (gth l n)]) ∧ Below w.heap.size w w' :=
  taken32_core op l n _ hl h0 h1 rfl w _ _ _ rfl rfl rfl
end Go.Proofs.YtndbkkldfinggaaDoor
