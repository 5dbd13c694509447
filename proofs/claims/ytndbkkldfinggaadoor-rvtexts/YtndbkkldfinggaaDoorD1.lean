/- Walks of the program's part, mask and signed: what each answers. -/
import Derived.Test.YtndbkkldfinggaaDoorA1
import Derived.Test.YtndbkkldfinggaaDoorRead
namespace Go.Proofs.YtndbkkldfinggaaDoor
open Go.RowKit
set_option maxHeartbeats 600000 in
theorem part42_25_7_0 (n : Int) (h0 : 0 ≤ n) (h1 : n < 4294967296) (w : World) : Calls Tryd.prog 42 #[.int .u32 n, .int .u64 25, .int .u64 7, .int .u64 0] w fun e w' => e = .returned (.int .u32 (pv 25 7 0 n)) ∧ w' = w := by
  go_enter Tryd.func42, Tryd.ntmps42
  go_wp2
  go_ret
  exact ⟨ret_int (by rw [pv_25_7_0, mask32 7 127 128 _ rfl rfl (by omega) (by omega) (by omega)]; omega), rfl⟩
set_option maxHeartbeats 600000 in
theorem part42_12_2_0 (n : Int) (h0 : 0 ≤ n) (h1 : n < 4294967296) (w : World) : Calls Tryd.prog 42 #[.int .u32 n, .int .u64 12, .int .u64 2, .int .u64 0] w fun e w' => e = .returned (.int .u32 (pv 12 2 0 n)) ∧ w' = w := by
  go_enter Tryd.func42, Tryd.ntmps42
  go_wp2
  go_ret
  exact ⟨ret_int (by rw [pv_12_2_0, mask32 2 3 4 _ rfl rfl (by omega) (by omega) (by omega)]; omega), rfl⟩
set_option maxHeartbeats 600000 in
theorem part42_0_7_0 (n : Int) (h0 : 0 ≤ n) (h1 : n < 4294967296) (w : World) : Calls Tryd.prog 42 #[.int .u32 n, .int .u64 0, .int .u64 7, .int .u64 0] w fun e w' => e = .returned (.int .u32 (pv 0 7 0 n)) ∧ w' = w := by
  go_enter Tryd.func42, Tryd.ntmps42
  go_wp2
  go_ret
  exact ⟨ret_int (by rw [pv_0_7_0, mask32 7 127 128 _ rfl rfl (by omega) (by omega) (by omega)]; omega), rfl⟩
set_option maxHeartbeats 600000 in
theorem part42_12_20_0 (n : Int) (h0 : 0 ≤ n) (h1 : n < 4294967296) (w : World) : Calls Tryd.prog 42 #[.int .u32 n, .int .u64 12, .int .u64 20, .int .u64 0] w fun e w' => e = .returned (.int .u32 (pv 12 20 0 n)) ∧ w' = w := by
  go_enter Tryd.func42, Tryd.ntmps42
  go_wp2
  go_ret
  exact ⟨ret_int (by rw [pv_12_20_0, mask32 20 1048575 1048576 _ rfl rfl (by omega) (by omega) (by omega)]; omega), rfl⟩
set_option maxHeartbeats 600000 in
theorem part42_12_8_12 (n : Int) (h0 : 0 ≤ n) (h1 : n < 4294967296) (w : World) : Calls Tryd.prog 42 #[.int .u32 n, .int .u64 12, .int .u64 8, .int .u64 12] w fun e w' => e = .returned (.int .u32 (pv 12 8 12 n)) ∧ w' = w := by
  go_enter Tryd.func42, Tryd.ntmps42
  go_wp2
  go_ret
  exact ⟨ret_int (by rw [pv_12_8_12, mask32 8 255 256 _ rfl rfl (by omega) (by omega) (by omega)]; omega), rfl⟩
set_option maxHeartbeats 600000 in
theorem part42_20_1_11 (n : Int) (h0 : 0 ≤ n) (h1 : n < 4294967296) (w : World) : Calls Tryd.prog 42 #[.int .u32 n, .int .u64 20, .int .u64 1, .int .u64 11] w fun e w' => e = .returned (.int .u32 (pv 20 1 11 n)) ∧ w' = w := by
  go_enter Tryd.func42, Tryd.ntmps42
  go_wp2
  go_ret
  exact ⟨ret_int (by rw [pv_20_1_11, mask32 1 1 2 _ rfl rfl (by omega) (by omega) (by omega)]; omega), rfl⟩
set_option maxHeartbeats 600000 in
theorem part42_21_10_1 (n : Int) (h0 : 0 ≤ n) (h1 : n < 4294967296) (w : World) : Calls Tryd.prog 42 #[.int .u32 n, .int .u64 21, .int .u64 10, .int .u64 1] w fun e w' => e = .returned (.int .u32 (pv 21 10 1 n)) ∧ w' = w := by
  go_enter Tryd.func42, Tryd.ntmps42
  go_wp2
  go_ret
  exact ⟨ret_int (by rw [pv_21_10_1, mask32 10 1023 1024 _ rfl rfl (by omega) (by omega) (by omega)]; omega), rfl⟩
set_option maxHeartbeats 600000 in
theorem part42_31_1_20 (n : Int) (h0 : 0 ≤ n) (h1 : n < 4294967296) (w : World) : Calls Tryd.prog 42 #[.int .u32 n, .int .u64 31, .int .u64 1, .int .u64 20] w fun e w' => e = .returned (.int .u32 (pv 31 1 20 n)) ∧ w' = w := by
  go_enter Tryd.func42, Tryd.ntmps42
  go_wp2
  go_ret
  exact ⟨ret_int (by rw [pv_31_1_20, mask32 1 1 2 _ rfl rfl (by omega) (by omega) (by omega)]; omega), rfl⟩
set_option maxHeartbeats 600000 in
theorem part42_20_12_0 (n : Int) (h0 : 0 ≤ n) (h1 : n < 4294967296) (w : World) : Calls Tryd.prog 42 #[.int .u32 n, .int .u64 20, .int .u64 12, .int .u64 0] w fun e w' => e = .returned (.int .u32 (pv 20 12 0 n)) ∧ w' = w := by
  go_enter Tryd.func42, Tryd.ntmps42
  go_wp2
  go_ret
  exact ⟨ret_int (by rw [pv_20_12_0, mask32 12 4095 4096 _ rfl rfl (by omega) (by omega) (by omega)]; omega), rfl⟩
set_option maxHeartbeats 600000 in
theorem part42_20_6_0 (n : Int) (h0 : 0 ≤ n) (h1 : n < 4294967296) (w : World) : Calls Tryd.prog 42 #[.int .u32 n, .int .u64 20, .int .u64 6, .int .u64 0] w fun e w' => e = .returned (.int .u32 (pv 20 6 0 n)) ∧ w' = w := by
  go_enter Tryd.func42, Tryd.ntmps42
  go_wp2
  go_ret
  exact ⟨ret_int (by rw [pv_20_6_0, mask32 6 63 64 _ rfl rfl (by omega) (by omega) (by omega)]; omega), rfl⟩
set_option maxHeartbeats 600000 in
theorem part42_20_5_0 (n : Int) (h0 : 0 ≤ n) (h1 : n < 4294967296) (w : World) : Calls Tryd.prog 42 #[.int .u32 n, .int .u64 20, .int .u64 5, .int .u64 0] w fun e w' => e = .returned (.int .u32 (pv 20 5 0 n)) ∧ w' = w := by
  go_enter Tryd.func42, Tryd.ntmps42
  go_wp2
  go_ret
  exact ⟨ret_int (by rw [pv_20_5_0, mask32 5 31 32 _ rfl rfl (by omega) (by omega) (by omega)]; omega), rfl⟩
set_option maxHeartbeats 600000 in
theorem part42_7_5_0 (n : Int) (h0 : 0 ≤ n) (h1 : n < 4294967296) (w : World) : Calls Tryd.prog 42 #[.int .u32 n, .int .u64 7, .int .u64 5, .int .u64 0] w fun e w' => e = .returned (.int .u32 (pv 7 5 0 n)) ∧ w' = w := by
  go_enter Tryd.func42, Tryd.ntmps42
  go_wp2
  go_ret
  exact ⟨ret_int (by rw [pv_7_5_0, mask32 5 31 32 _ rfl rfl (by omega) (by omega) (by omega)]; omega), rfl⟩
set_option maxHeartbeats 600000 in
theorem part42_25_7_5 (n : Int) (h0 : 0 ≤ n) (h1 : n < 4294967296) (w : World) : Calls Tryd.prog 42 #[.int .u32 n, .int .u64 25, .int .u64 7, .int .u64 5] w fun e w' => e = .returned (.int .u32 (pv 25 7 5 n)) ∧ w' = w := by
  go_enter Tryd.func42, Tryd.ntmps42
  go_wp2
  go_ret
  exact ⟨ret_int (by rw [pv_25_7_5, mask32 7 127 128 _ rfl rfl (by omega) (by omega) (by omega)]; omega), rfl⟩
set_option maxHeartbeats 600000 in
theorem part42_8_4_1 (n : Int) (h0 : 0 ≤ n) (h1 : n < 4294967296) (w : World) : Calls Tryd.prog 42 #[.int .u32 n, .int .u64 8, .int .u64 4, .int .u64 1] w fun e w' => e = .returned (.int .u32 (pv 8 4 1 n)) ∧ w' = w := by
  go_enter Tryd.func42, Tryd.ntmps42
  go_wp2
  go_ret
  exact ⟨ret_int (by rw [pv_8_4_1, mask32 4 15 16 _ rfl rfl (by omega) (by omega) (by omega)]; omega), rfl⟩
set_option maxHeartbeats 600000 in
theorem part42_25_6_5 (n : Int) (h0 : 0 ≤ n) (h1 : n < 4294967296) (w : World) : Calls Tryd.prog 42 #[.int .u32 n, .int .u64 25, .int .u64 6, .int .u64 5] w fun e w' => e = .returned (.int .u32 (pv 25 6 5 n)) ∧ w' = w := by
  go_enter Tryd.func42, Tryd.ntmps42
  go_wp2
  go_ret
  exact ⟨ret_int (by rw [pv_25_6_5, mask32 6 63 64 _ rfl rfl (by omega) (by omega) (by omega)]; omega), rfl⟩
set_option maxHeartbeats 600000 in
theorem part42_7_1_11 (n : Int) (h0 : 0 ≤ n) (h1 : n < 4294967296) (w : World) : Calls Tryd.prog 42 #[.int .u32 n, .int .u64 7, .int .u64 1, .int .u64 11] w fun e w' => e = .returned (.int .u32 (pv 7 1 11 n)) ∧ w' = w := by
  go_enter Tryd.func42, Tryd.ntmps42
  go_wp2
  go_ret
  exact ⟨ret_int (by rw [pv_7_1_11, mask32 1 1 2 _ rfl rfl (by omega) (by omega) (by omega)]; omega), rfl⟩
set_option maxHeartbeats 600000 in
theorem part42_31_1_12 (n : Int) (h0 : 0 ≤ n) (h1 : n < 4294967296) (w : World) : Calls Tryd.prog 42 #[.int .u32 n, .int .u64 31, .int .u64 1, .int .u64 12] w fun e w' => e = .returned (.int .u32 (pv 31 1 12 n)) ∧ w' = w := by
  go_enter Tryd.func42, Tryd.ntmps42
  go_wp2
  go_ret
  exact ⟨ret_int (by rw [pv_31_1_12, mask32 1 1 2 _ rfl rfl (by omega) (by omega) (by omega)]; omega), rfl⟩
set_option maxHeartbeats 600000 in
theorem part42_15_5_0 (n : Int) (h0 : 0 ≤ n) (h1 : n < 4294967296) (w : World) : Calls Tryd.prog 42 #[.int .u32 n, .int .u64 15, .int .u64 5, .int .u64 0] w fun e w' => e = .returned (.int .u32 (pv 15 5 0 n)) ∧ w' = w := by
  go_enter Tryd.func42, Tryd.ntmps42
  go_wp2
  go_ret
  exact ⟨ret_int (by rw [pv_15_5_0, mask32 5 31 32 _ rfl rfl (by omega) (by omega) (by omega)]; omega), rfl⟩

theorem part42 (n l c a : Int) (h : Pt l c a) (h0 : 0 ≤ n) (h1 : n < 4294967296) (w : World) : Calls Tryd.prog 42 #[.int .u32 n, .int .u64 l, .int .u64 c, .int .u64 a] w fun e w' => e = .returned (.int .u32 (pv l c a n)) ∧ w' = w := by
  rcases h with ⟨rfl, rfl, rfl⟩ | ⟨rfl, rfl, rfl⟩ | ⟨rfl, rfl, rfl⟩ | ⟨rfl, rfl, rfl⟩ | ⟨rfl, rfl, rfl⟩ | ⟨rfl, rfl, rfl⟩ | ⟨rfl, rfl, rfl⟩ | ⟨rfl, rfl, rfl⟩ | ⟨rfl, rfl, rfl⟩ | ⟨rfl, rfl, rfl⟩ | ⟨rfl, rfl, rfl⟩ | ⟨rfl, rfl, rfl⟩ | ⟨rfl, rfl, rfl⟩ | ⟨rfl, rfl, rfl⟩ | ⟨rfl, rfl, rfl⟩ | ⟨rfl, rfl, rfl⟩ | ⟨rfl, rfl, rfl⟩ | ⟨rfl, rfl, rfl⟩
  · exact part42_25_7_0 n h0 h1 w
  · exact part42_12_2_0 n h0 h1 w
  · exact part42_0_7_0 n h0 h1 w
  · exact part42_12_20_0 n h0 h1 w
  · exact part42_12_8_12 n h0 h1 w
  · exact part42_20_1_11 n h0 h1 w
  · exact part42_21_10_1 n h0 h1 w
  · exact part42_31_1_20 n h0 h1 w
  · exact part42_20_12_0 n h0 h1 w
  · exact part42_20_6_0 n h0 h1 w
  · exact part42_20_5_0 n h0 h1 w
  · exact part42_7_5_0 n h0 h1 w
  · exact part42_25_7_5 n h0 h1 w
  · exact part42_8_4_1 n h0 h1 w
  · exact part42_25_6_5 n h0 h1 w
  · exact part42_7_1_11 n h0 h1 w
  · exact part42_31_1_12 n h0 h1 w
  · exact part42_15_5_0 n h0 h1 w

set_option maxHeartbeats 600000 in
theorem signed56_12 (n : Int) (h0 : 0 ≤ n) (h1 : n < 4096) (w : World) : Calls Tryd.prog 56 #[.int .u32 n, .int .u64 12] w fun e w' => e = .returned (.int .i64 (sg 12 n)) ∧ w' = w := by
  rw [sg_12]
  by_cases hs : n < 2048
  · rw [if_pos hs]
    go_enter Tryd.func56, Tryd.ntmps56
    go_wp2
    go_ret
    refine ⟨ret_int ?_, rfl⟩
    rfl
  · rw [if_neg hs]
    go_enter Tryd.func56, Tryd.ntmps56
    go_wp2
    go_ret
    refine ⟨ret_int ?_, rfl⟩
    unfold wrap64 wrap32
    omega
set_option maxHeartbeats 600000 in
theorem signed56_13 (n : Int) (h0 : 0 ≤ n) (h1 : n < 8192) (w : World) : Calls Tryd.prog 56 #[.int .u32 n, .int .u64 13] w fun e w' => e = .returned (.int .i64 (sg 13 n)) ∧ w' = w := by
  rw [sg_13]
  by_cases hs : n < 4096
  · rw [if_pos hs]
    go_enter Tryd.func56, Tryd.ntmps56
    go_wp2
    go_ret
    refine ⟨ret_int ?_, rfl⟩
    rfl
  · rw [if_neg hs]
    go_enter Tryd.func56, Tryd.ntmps56
    go_wp2
    go_ret
    refine ⟨ret_int ?_, rfl⟩
    unfold wrap64 wrap32
    omega
set_option maxHeartbeats 600000 in
theorem signed56_20 (n : Int) (h0 : 0 ≤ n) (h1 : n < 1048576) (w : World) : Calls Tryd.prog 56 #[.int .u32 n, .int .u64 20] w fun e w' => e = .returned (.int .i64 (sg 20 n)) ∧ w' = w := by
  rw [sg_20]
  by_cases hs : n < 524288
  · rw [if_pos hs]
    go_enter Tryd.func56, Tryd.ntmps56
    go_wp2
    go_ret
    refine ⟨ret_int ?_, rfl⟩
    rfl
  · rw [if_neg hs]
    go_enter Tryd.func56, Tryd.ntmps56
    go_wp2
    go_ret
    refine ⟨ret_int ?_, rfl⟩
    unfold wrap64 wrap32
    omega
set_option maxHeartbeats 600000 in
theorem signed56_21 (n : Int) (h0 : 0 ≤ n) (h1 : n < 2097152) (w : World) : Calls Tryd.prog 56 #[.int .u32 n, .int .u64 21] w fun e w' => e = .returned (.int .i64 (sg 21 n)) ∧ w' = w := by
  rw [sg_21]
  by_cases hs : n < 1048576
  · rw [if_pos hs]
    go_enter Tryd.func56, Tryd.ntmps56
    go_wp2
    go_ret
    refine ⟨ret_int ?_, rfl⟩
    rfl
  · rw [if_neg hs]
    go_enter Tryd.func56, Tryd.ntmps56
    go_wp2
    go_ret
    refine ⟨ret_int ?_, rfl⟩
    unfold wrap64 wrap32
    omega

set_option maxHeartbeats 4000000 in
theorem mask31 (l : Int) (hl : IsL l) (w : World) :
    Calls Tryd.prog 31 #[.int .u8 l] w fun e w' => e = .returned (.int .u32 (mk l)) ∧ w' = w := by
  rcases hl with rfl | rfl | rfl | rfl | rfl | rfl | rfl | rfl | rfl | rfl
  all_goals
    go_enter Tryd.func31, Tryd.ntmps31
    go_wp2
    go_ret
    exact ⟨rfl, rfl⟩
end Go.Proofs.YtndbkkldfinggaaDoor
