/- Walks of the document's small functions: what each answers. -/
import Derived.Test.YtndbkkldfinggaaDoorG0
import Derived.Test.YtndbkkldfinggaaDoorA1
namespace Go.Proofs.YtndbkkldfinggaaDoor
open Go.RowKit
set_option maxHeartbeats 1000000 in
theorem reg40 (r : Int) (b : Bool) (w : World) :
    Calls Tryd.prog 40 #[.int .i64 r, .bool b] w fun e w' => e = .returned (.bool (regB b r)) ∧ w' = w := by
  cases b
  · go_enter Tryd.func40, Tryd.ntmps40
    go_wp2
    all_goals go_ret
    all_goals exact ⟨ret_bool (by simp [regB]), rfl⟩
  · go_enter Tryd.func40, Tryd.ntmps40
    go_wp2
    all_goals go_ret
    all_goals exact ⟨ret_bool (by simp [regB] <;> omega), rfl⟩
set_option maxHeartbeats 4000000 in
theorem has39 (r : Int) (hr : IsR r) (w : World) :
    Calls Tryd.prog 39 #[.int .u8 r] w fun e w' => e = .returned (.tuple #[.bool (nRd (pOf r)), .bool (nR1 (pOf r)), .bool (nR2 (pOf r))]) ∧ w' = w := by
  rcases hr with rfl | rfl | rfl | rfl | rfl | rfl | rfl | rfl | rfl | rfl
  all_goals
    go_enter Tryd.func39, Tryd.ntmps39
    go_wp2
    go_ret3
    exact ⟨rfl, rfl⟩
set_option maxHeartbeats 4000000 in
theorem imm41 (r n : Int) (hr : IsR r) (w : World) :
    Calls Tryd.prog 41 #[.int .u8 r, .int .i64 n] w fun e w' => e = .returned (.bool (numB (pOf r) n)) ∧ w' = w := by
  rcases hr with rfl | rfl | rfl | rfl | rfl | rfl | rfl | rfl | rfl | rfl
  all_goals
    go_enter Tryd.func41, Tryd.ntmps41
    go_wp2
  all_goals go_ret
  all_goals refine ⟨ret_bool ?_, rfl⟩
  all_goals (rw [Bool.eq_iff_iff]; simp [numB, loN, hiN, stN, pOf, tmod2] <;> omega)
set_option maxHeartbeats 1000000 in
theorem bits43_0_12 (n : Int) (w : World) : Calls Tryd.prog 43 #[.int .i64 n, .int .u32 0, .int .u32 12] w fun e w' => e = .returned (.int .u32 (n % 4096)) ∧ w' = w := by
  go_enter Tryd.func43, Tryd.ntmps43
  go_wp2
  go_ret
  exact ⟨ret_int (by rw [mask32 12 4095 4096 _ rfl rfl (by omega) (by omega) (by omega)]; omega), rfl⟩
set_option maxHeartbeats 1000000 in
theorem bits43_0_5 (n : Int) (w : World) : Calls Tryd.prog 43 #[.int .i64 n, .int .u32 0, .int .u32 5] w fun e w' => e = .returned (.int .u32 (n % 32)) ∧ w' = w := by
  go_enter Tryd.func43, Tryd.ntmps43
  go_wp2
  go_ret
  exact ⟨ret_int (by rw [mask32 5 31 32 _ rfl rfl (by omega) (by omega) (by omega)]; omega), rfl⟩
set_option maxHeartbeats 1000000 in
theorem bits43_5_7 (n : Int) (w : World) : Calls Tryd.prog 43 #[.int .i64 n, .int .u32 5, .int .u32 7] w fun e w' => e = .returned (.int .u32 (n / 32 % 128)) ∧ w' = w := by
  go_enter Tryd.func43, Tryd.ntmps43
  go_wp2
  go_ret
  exact ⟨ret_int (by rw [mask32 7 127 128 _ rfl rfl (by omega) (by omega) (by omega)]; omega), rfl⟩
set_option maxHeartbeats 1000000 in
theorem bits43_11_1 (n : Int) (w : World) : Calls Tryd.prog 43 #[.int .i64 n, .int .u32 11, .int .u32 1] w fun e w' => e = .returned (.int .u32 (n / 2048 % 2)) ∧ w' = w := by
  go_enter Tryd.func43, Tryd.ntmps43
  go_wp2
  go_ret
  exact ⟨ret_int (by rw [mask32 1 1 2 _ rfl rfl (by omega) (by omega) (by omega)]; omega), rfl⟩
set_option maxHeartbeats 1000000 in
theorem bits43_1_4 (n : Int) (w : World) : Calls Tryd.prog 43 #[.int .i64 n, .int .u32 1, .int .u32 4] w fun e w' => e = .returned (.int .u32 (n / 2 % 16)) ∧ w' = w := by
  go_enter Tryd.func43, Tryd.ntmps43
  go_wp2
  go_ret
  exact ⟨ret_int (by rw [mask32 4 15 16 _ rfl rfl (by omega) (by omega) (by omega)]; omega), rfl⟩
set_option maxHeartbeats 1000000 in
theorem bits43_5_6 (n : Int) (w : World) : Calls Tryd.prog 43 #[.int .i64 n, .int .u32 5, .int .u32 6] w fun e w' => e = .returned (.int .u32 (n / 32 % 64)) ∧ w' = w := by
  go_enter Tryd.func43, Tryd.ntmps43
  go_wp2
  go_ret
  exact ⟨ret_int (by rw [mask32 6 63 64 _ rfl rfl (by omega) (by omega) (by omega)]; omega), rfl⟩
set_option maxHeartbeats 1000000 in
theorem bits43_12_1 (n : Int) (w : World) : Calls Tryd.prog 43 #[.int .i64 n, .int .u32 12, .int .u32 1] w fun e w' => e = .returned (.int .u32 (n / 4096 % 2)) ∧ w' = w := by
  go_enter Tryd.func43, Tryd.ntmps43
  go_wp2
  go_ret
  exact ⟨ret_int (by rw [mask32 1 1 2 _ rfl rfl (by omega) (by omega) (by omega)]; omega), rfl⟩
set_option maxHeartbeats 1000000 in
theorem bits43_0_20 (n : Int) (w : World) : Calls Tryd.prog 43 #[.int .i64 n, .int .u32 0, .int .u32 20] w fun e w' => e = .returned (.int .u32 (n % 1048576)) ∧ w' = w := by
  go_enter Tryd.func43, Tryd.ntmps43
  go_wp2
  go_ret
  exact ⟨ret_int (by rw [mask32 20 1048575 1048576 _ rfl rfl (by omega) (by omega) (by omega)]; omega), rfl⟩
set_option maxHeartbeats 1000000 in
theorem bits43_12_8 (n : Int) (w : World) : Calls Tryd.prog 43 #[.int .i64 n, .int .u32 12, .int .u32 8] w fun e w' => e = .returned (.int .u32 (n / 4096 % 256)) ∧ w' = w := by
  go_enter Tryd.func43, Tryd.ntmps43
  go_wp2
  go_ret
  exact ⟨ret_int (by rw [mask32 8 255 256 _ rfl rfl (by omega) (by omega) (by omega)]; omega), rfl⟩
set_option maxHeartbeats 1000000 in
theorem bits43_1_10 (n : Int) (w : World) : Calls Tryd.prog 43 #[.int .i64 n, .int .u32 1, .int .u32 10] w fun e w' => e = .returned (.int .u32 (n / 2 % 1024)) ∧ w' = w := by
  go_enter Tryd.func43, Tryd.ntmps43
  go_wp2
  go_ret
  exact ⟨ret_int (by rw [mask32 10 1023 1024 _ rfl rfl (by omega) (by omega) (by omega)]; omega), rfl⟩
set_option maxHeartbeats 1000000 in
theorem bits43_20_1 (n : Int) (w : World) : Calls Tryd.prog 43 #[.int .i64 n, .int .u32 20, .int .u32 1] w fun e w' => e = .returned (.int .u32 (n / 1048576 % 2)) ∧ w' = w := by
  go_enter Tryd.func43, Tryd.ntmps43
  go_wp2
  go_ret
  exact ⟨ret_int (by rw [mask32 1 1 2 _ rfl rfl (by omega) (by omega) (by omega)]; omega), rfl⟩

/-- Some bits of a number. -/
def bv (f m n : Int) : Int := n / 2 ^ f.toNat % 2 ^ m.toNat
theorem bv_0_12 (n : Int) : bv 0 12 n = n % 4096 := by simp [bv]
theorem bv_0_5 (n : Int) : bv 0 5 n = n % 32 := by simp [bv]
theorem bv_5_7 (n : Int) : bv 5 7 n = n / 32 % 128 := by simp [bv]
theorem bv_11_1 (n : Int) : bv 11 1 n = n / 2048 % 2 := by simp [bv]
theorem bv_1_4 (n : Int) : bv 1 4 n = n / 2 % 16 := by simp [bv]
theorem bv_5_6 (n : Int) : bv 5 6 n = n / 32 % 64 := by simp [bv]
theorem bv_12_1 (n : Int) : bv 12 1 n = n / 4096 % 2 := by simp [bv]
theorem bv_0_20 (n : Int) : bv 0 20 n = n % 1048576 := by simp [bv]
theorem bv_12_8 (n : Int) : bv 12 8 n = n / 4096 % 256 := by simp [bv]
theorem bv_1_10 (n : Int) : bv 1 10 n = n / 2 % 1024 := by simp [bv]
theorem bv_20_1 (n : Int) : bv 20 1 n = n / 1048576 % 2 := by simp [bv]
/-- The pairs that the document's Word asks for. -/
def Pr (f m : Int) : Prop := (f = 0 ∧ m = 12) ∨ (f = 0 ∧ m = 5) ∨ (f = 5 ∧ m = 7) ∨ (f = 11 ∧ m = 1) ∨ (f = 1 ∧ m = 4) ∨ (f = 5 ∧ m = 6) ∨ (f = 12 ∧ m = 1) ∨ (f = 0 ∧ m = 20) ∨ (f = 12 ∧ m = 8) ∨ (f = 1 ∧ m = 10) ∨ (f = 20 ∧ m = 1)
theorem bits43 (n f m : Int) (h : Pr f m) (w : World) : Calls Tryd.prog 43 #[.int .i64 n, .int .u32 f, .int .u32 m] w fun e w' => e = .returned (.int .u32 (bv f m n)) ∧ w' = w := by
  rcases h with ⟨rfl, rfl⟩ | ⟨rfl, rfl⟩ | ⟨rfl, rfl⟩ | ⟨rfl, rfl⟩ | ⟨rfl, rfl⟩ | ⟨rfl, rfl⟩ | ⟨rfl, rfl⟩ | ⟨rfl, rfl⟩ | ⟨rfl, rfl⟩ | ⟨rfl, rfl⟩ | ⟨rfl, rfl⟩
  · rw [bv_0_12]; exact bits43_0_12 n w
  · rw [bv_0_5]; exact bits43_0_5 n w
  · rw [bv_5_7]; exact bits43_5_7 n w
  · rw [bv_11_1]; exact bits43_11_1 n w
  · rw [bv_1_4]; exact bits43_1_4 n w
  · rw [bv_5_6]; exact bits43_5_6 n w
  · rw [bv_12_1]; exact bits43_12_1 n w
  · rw [bv_0_20]; exact bits43_0_20 n w
  · rw [bv_12_8]; exact bits43_12_8 n w
  · rw [bv_1_10]; exact bits43_1_10 n w
  · rw [bv_20_1]; exact bits43_20_1 n w
end Go.Proofs.YtndbkkldfinggaaDoor
