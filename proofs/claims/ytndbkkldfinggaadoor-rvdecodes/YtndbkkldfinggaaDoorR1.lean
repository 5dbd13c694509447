/- Walks of the document's part and signed: what each answers. -/
import Derived.Test.YtndbkkldfinggaaDoorG1
import Derived.Test.YtndbkkldfinggaaDoorBack
namespace Go.Proofs.YtndbkkldfinggaaDoor
open Go.RowKit
theorem bw_7_5 (n : Int) : bv 7 5 n = n / 128 % 32 := by simp [bv]
set_option maxHeartbeats 600000 in
theorem part48_7_5 (n : Int) (h0 : 0 ≤ n) (h1 : n < 4294967296) (w : World) : Calls Tryd.prog 48 #[.int .u32 n, .int .u32 7, .int .u32 5] w fun e w' => e = .returned (.int .u32 (bv 7 5 n)) ∧ w' = w := by
  go_enter Tryd.func48, Tryd.ntmps48
  go_wp2
  go_ret
  exact ⟨ret_int (by rw [bw_7_5, mask32 5 31 32 _ rfl rfl (by omega) (by omega) (by omega)]), rfl⟩
theorem bw_15_5 (n : Int) : bv 15 5 n = n / 32768 % 32 := by simp [bv]
set_option maxHeartbeats 600000 in
theorem part48_15_5 (n : Int) (h0 : 0 ≤ n) (h1 : n < 4294967296) (w : World) : Calls Tryd.prog 48 #[.int .u32 n, .int .u32 15, .int .u32 5] w fun e w' => e = .returned (.int .u32 (bv 15 5 n)) ∧ w' = w := by
  go_enter Tryd.func48, Tryd.ntmps48
  go_wp2
  go_ret
  exact ⟨ret_int (by rw [bw_15_5, mask32 5 31 32 _ rfl rfl (by omega) (by omega) (by omega)]), rfl⟩
theorem bw_20_5 (n : Int) : bv 20 5 n = n / 1048576 % 32 := by simp [bv]
set_option maxHeartbeats 600000 in
theorem part48_20_5 (n : Int) (h0 : 0 ≤ n) (h1 : n < 4294967296) (w : World) : Calls Tryd.prog 48 #[.int .u32 n, .int .u32 20, .int .u32 5] w fun e w' => e = .returned (.int .u32 (bv 20 5 n)) ∧ w' = w := by
  go_enter Tryd.func48, Tryd.ntmps48
  go_wp2
  go_ret
  exact ⟨ret_int (by rw [bw_20_5, mask32 5 31 32 _ rfl rfl (by omega) (by omega) (by omega)]), rfl⟩
theorem bw_20_12 (n : Int) : bv 20 12 n = n / 1048576 % 4096 := by simp [bv]
set_option maxHeartbeats 600000 in
theorem part48_20_12 (n : Int) (h0 : 0 ≤ n) (h1 : n < 4294967296) (w : World) : Calls Tryd.prog 48 #[.int .u32 n, .int .u32 20, .int .u32 12] w fun e w' => e = .returned (.int .u32 (bv 20 12 n)) ∧ w' = w := by
  go_enter Tryd.func48, Tryd.ntmps48
  go_wp2
  go_ret
  exact ⟨ret_int (by rw [bw_20_12, mask32 12 4095 4096 _ rfl rfl (by omega) (by omega) (by omega)]), rfl⟩
theorem bw_20_6 (n : Int) : bv 20 6 n = n / 1048576 % 64 := by simp [bv]
set_option maxHeartbeats 600000 in
theorem part48_20_6 (n : Int) (h0 : 0 ≤ n) (h1 : n < 4294967296) (w : World) : Calls Tryd.prog 48 #[.int .u32 n, .int .u32 20, .int .u32 6] w fun e w' => e = .returned (.int .u32 (bv 20 6 n)) ∧ w' = w := by
  go_enter Tryd.func48, Tryd.ntmps48
  go_wp2
  go_ret
  exact ⟨ret_int (by rw [bw_20_6, mask32 6 63 64 _ rfl rfl (by omega) (by omega) (by omega)]), rfl⟩
theorem bw_25_7 (n : Int) : bv 25 7 n = n / 33554432 % 128 := by simp [bv]
set_option maxHeartbeats 600000 in
theorem part48_25_7 (n : Int) (h0 : 0 ≤ n) (h1 : n < 4294967296) (w : World) : Calls Tryd.prog 48 #[.int .u32 n, .int .u32 25, .int .u32 7] w fun e w' => e = .returned (.int .u32 (bv 25 7 n)) ∧ w' = w := by
  go_enter Tryd.func48, Tryd.ntmps48
  go_wp2
  go_ret
  exact ⟨ret_int (by rw [bw_25_7, mask32 7 127 128 _ rfl rfl (by omega) (by omega) (by omega)]), rfl⟩
theorem bw_8_4 (n : Int) : bv 8 4 n = n / 256 % 16 := by simp [bv]
set_option maxHeartbeats 600000 in
theorem part48_8_4 (n : Int) (h0 : 0 ≤ n) (h1 : n < 4294967296) (w : World) : Calls Tryd.prog 48 #[.int .u32 n, .int .u32 8, .int .u32 4] w fun e w' => e = .returned (.int .u32 (bv 8 4 n)) ∧ w' = w := by
  go_enter Tryd.func48, Tryd.ntmps48
  go_wp2
  go_ret
  exact ⟨ret_int (by rw [bw_8_4, mask32 4 15 16 _ rfl rfl (by omega) (by omega) (by omega)]), rfl⟩
theorem bw_25_6 (n : Int) : bv 25 6 n = n / 33554432 % 64 := by simp [bv]
set_option maxHeartbeats 600000 in
theorem part48_25_6 (n : Int) (h0 : 0 ≤ n) (h1 : n < 4294967296) (w : World) : Calls Tryd.prog 48 #[.int .u32 n, .int .u32 25, .int .u32 6] w fun e w' => e = .returned (.int .u32 (bv 25 6 n)) ∧ w' = w := by
  go_enter Tryd.func48, Tryd.ntmps48
  go_wp2
  go_ret
  exact ⟨ret_int (by rw [bw_25_6, mask32 6 63 64 _ rfl rfl (by omega) (by omega) (by omega)]), rfl⟩
theorem bw_7_1 (n : Int) : bv 7 1 n = n / 128 % 2 := by simp [bv]
set_option maxHeartbeats 600000 in
theorem part48_7_1 (n : Int) (h0 : 0 ≤ n) (h1 : n < 4294967296) (w : World) : Calls Tryd.prog 48 #[.int .u32 n, .int .u32 7, .int .u32 1] w fun e w' => e = .returned (.int .u32 (bv 7 1 n)) ∧ w' = w := by
  go_enter Tryd.func48, Tryd.ntmps48
  go_wp2
  go_ret
  exact ⟨ret_int (by rw [bw_7_1, mask32 1 1 2 _ rfl rfl (by omega) (by omega) (by omega)]), rfl⟩
theorem bw_31_1 (n : Int) : bv 31 1 n = n / 2147483648 % 2 := by simp [bv]
set_option maxHeartbeats 600000 in
theorem part48_31_1 (n : Int) (h0 : 0 ≤ n) (h1 : n < 4294967296) (w : World) : Calls Tryd.prog 48 #[.int .u32 n, .int .u32 31, .int .u32 1] w fun e w' => e = .returned (.int .u32 (bv 31 1 n)) ∧ w' = w := by
  go_enter Tryd.func48, Tryd.ntmps48
  go_wp2
  go_ret
  exact ⟨ret_int (by rw [bw_31_1, mask32 1 1 2 _ rfl rfl (by omega) (by omega) (by omega)]), rfl⟩
theorem bw_12_20 (n : Int) : bv 12 20 n = n / 4096 % 1048576 := by simp [bv]
set_option maxHeartbeats 600000 in
theorem part48_12_20 (n : Int) (h0 : 0 ≤ n) (h1 : n < 4294967296) (w : World) : Calls Tryd.prog 48 #[.int .u32 n, .int .u32 12, .int .u32 20] w fun e w' => e = .returned (.int .u32 (bv 12 20 n)) ∧ w' = w := by
  go_enter Tryd.func48, Tryd.ntmps48
  go_wp2
  go_ret
  exact ⟨ret_int (by rw [bw_12_20, mask32 20 1048575 1048576 _ rfl rfl (by omega) (by omega) (by omega)]), rfl⟩
theorem bw_21_10 (n : Int) : bv 21 10 n = n / 2097152 % 1024 := by simp [bv]
set_option maxHeartbeats 600000 in
theorem part48_21_10 (n : Int) (h0 : 0 ≤ n) (h1 : n < 4294967296) (w : World) : Calls Tryd.prog 48 #[.int .u32 n, .int .u32 21, .int .u32 10] w fun e w' => e = .returned (.int .u32 (bv 21 10 n)) ∧ w' = w := by
  go_enter Tryd.func48, Tryd.ntmps48
  go_wp2
  go_ret
  exact ⟨ret_int (by rw [bw_21_10, mask32 10 1023 1024 _ rfl rfl (by omega) (by omega) (by omega)]), rfl⟩
theorem bw_20_1 (n : Int) : bv 20 1 n = n / 1048576 % 2 := by simp [bv]
set_option maxHeartbeats 600000 in
theorem part48_20_1 (n : Int) (h0 : 0 ≤ n) (h1 : n < 4294967296) (w : World) : Calls Tryd.prog 48 #[.int .u32 n, .int .u32 20, .int .u32 1] w fun e w' => e = .returned (.int .u32 (bv 20 1 n)) ∧ w' = w := by
  go_enter Tryd.func48, Tryd.ntmps48
  go_wp2
  go_ret
  exact ⟨ret_int (by rw [bw_20_1, mask32 1 1 2 _ rfl rfl (by omega) (by omega) (by omega)]), rfl⟩
theorem bw_12_8 (n : Int) : bv 12 8 n = n / 4096 % 256 := by simp [bv]
set_option maxHeartbeats 600000 in
theorem part48_12_8 (n : Int) (h0 : 0 ≤ n) (h1 : n < 4294967296) (w : World) : Calls Tryd.prog 48 #[.int .u32 n, .int .u32 12, .int .u32 8] w fun e w' => e = .returned (.int .u32 (bv 12 8 n)) ∧ w' = w := by
  go_enter Tryd.func48, Tryd.ntmps48
  go_wp2
  go_ret
  exact ⟨ret_int (by rw [bw_12_8, mask32 8 255 256 _ rfl rfl (by omega) (by omega) (by omega)]), rfl⟩
def Pw (f m : Int) : Prop := (f = 7 ∧ m = 5) ∨ (f = 15 ∧ m = 5) ∨ (f = 20 ∧ m = 5) ∨ (f = 20 ∧ m = 12) ∨ (f = 20 ∧ m = 6) ∨ (f = 25 ∧ m = 7) ∨ (f = 8 ∧ m = 4) ∨ (f = 25 ∧ m = 6) ∨ (f = 7 ∧ m = 1) ∨ (f = 31 ∧ m = 1) ∨ (f = 12 ∧ m = 20) ∨ (f = 21 ∧ m = 10) ∨ (f = 20 ∧ m = 1) ∨ (f = 12 ∧ m = 8)
theorem part48 (n f m : Int) (h : Pw f m) (h0 : 0 ≤ n) (h1 : n < 4294967296) (w : World) : Calls Tryd.prog 48 #[.int .u32 n, .int .u32 f, .int .u32 m] w fun e w' => e = .returned (.int .u32 (bv f m n)) ∧ w' = w := by
  rcases h with ⟨rfl, rfl⟩ | ⟨rfl, rfl⟩ | ⟨rfl, rfl⟩ | ⟨rfl, rfl⟩ | ⟨rfl, rfl⟩ | ⟨rfl, rfl⟩ | ⟨rfl, rfl⟩ | ⟨rfl, rfl⟩ | ⟨rfl, rfl⟩ | ⟨rfl, rfl⟩ | ⟨rfl, rfl⟩ | ⟨rfl, rfl⟩ | ⟨rfl, rfl⟩ | ⟨rfl, rfl⟩
  · exact part48_7_5 n h0 h1 w
  · exact part48_15_5 n h0 h1 w
  · exact part48_20_5 n h0 h1 w
  · exact part48_20_12 n h0 h1 w
  · exact part48_20_6 n h0 h1 w
  · exact part48_25_7 n h0 h1 w
  · exact part48_8_4 n h0 h1 w
  · exact part48_25_6 n h0 h1 w
  · exact part48_7_1 n h0 h1 w
  · exact part48_31_1 n h0 h1 w
  · exact part48_12_20 n h0 h1 w
  · exact part48_21_10 n h0 h1 w
  · exact part48_20_1 n h0 h1 w
  · exact part48_12_8 n h0 h1 w
set_option maxHeartbeats 600000 in
theorem signed49_12 (n : Int) (h0 : 0 ≤ n) (h1 : n < 4096) (w : World) : Calls Tryd.prog 49 #[.int .u32 n, .int .u32 12] w fun e w' => e = .returned (.int .i64 (sg 12 n)) ∧ w' = w := by
  have hm : bits .and .u32 (n / 2048) 1 = n / 2048 % 2 := mask32 1 1 2 _ rfl rfl (by omega) (by omega) (by omega)
  rw [sg_12]
  by_cases hs : n < 2048
  · have hx : (n / 2048 % 2 == 1) = false := by
      rw [beq_eq_false_iff_ne]; omega
    rw [if_pos hs]
    go_enter Tryd.func49, Tryd.ntmps49
    go_wp2
    go_ret
    exact ⟨rfl, rfl⟩
  · have hx : (n / 2048 % 2 == 1) = true := by
      rw [beq_iff_eq]; omega
    rw [if_neg hs]
    go_enter Tryd.func49, Tryd.ntmps49
    go_wp2
    go_ret
    exact ⟨rfl, rfl⟩
set_option maxHeartbeats 600000 in
theorem signed49_13 (n : Int) (h0 : 0 ≤ n) (h1 : n < 8192) (w : World) : Calls Tryd.prog 49 #[.int .u32 n, .int .u32 13] w fun e w' => e = .returned (.int .i64 (sg 13 n)) ∧ w' = w := by
  have hm : bits .and .u32 (n / 4096) 1 = n / 4096 % 2 := mask32 1 1 2 _ rfl rfl (by omega) (by omega) (by omega)
  rw [sg_13]
  by_cases hs : n < 4096
  · have hx : (n / 4096 % 2 == 1) = false := by
      rw [beq_eq_false_iff_ne]; omega
    rw [if_pos hs]
    go_enter Tryd.func49, Tryd.ntmps49
    go_wp2
    go_ret
    exact ⟨rfl, rfl⟩
  · have hx : (n / 4096 % 2 == 1) = true := by
      rw [beq_iff_eq]; omega
    rw [if_neg hs]
    go_enter Tryd.func49, Tryd.ntmps49
    go_wp2
    go_ret
    exact ⟨rfl, rfl⟩
set_option maxHeartbeats 600000 in
theorem signed49_20 (n : Int) (h0 : 0 ≤ n) (h1 : n < 1048576) (w : World) : Calls Tryd.prog 49 #[.int .u32 n, .int .u32 20] w fun e w' => e = .returned (.int .i64 (sg 20 n)) ∧ w' = w := by
  have hm : bits .and .u32 (n / 524288) 1 = n / 524288 % 2 := mask32 1 1 2 _ rfl rfl (by omega) (by omega) (by omega)
  rw [sg_20]
  by_cases hs : n < 524288
  · have hx : (n / 524288 % 2 == 1) = false := by
      rw [beq_eq_false_iff_ne]; omega
    rw [if_pos hs]
    go_enter Tryd.func49, Tryd.ntmps49
    go_wp2
    go_ret
    exact ⟨rfl, rfl⟩
  · have hx : (n / 524288 % 2 == 1) = true := by
      rw [beq_iff_eq]; omega
    rw [if_neg hs]
    go_enter Tryd.func49, Tryd.ntmps49
    go_wp2
    go_ret
    exact ⟨rfl, rfl⟩
set_option maxHeartbeats 600000 in
theorem signed49_21 (n : Int) (h0 : 0 ≤ n) (h1 : n < 2097152) (w : World) : Calls Tryd.prog 49 #[.int .u32 n, .int .u32 21] w fun e w' => e = .returned (.int .i64 (sg 21 n)) ∧ w' = w := by
  have hm : bits .and .u32 (n / 1048576) 1 = n / 1048576 % 2 := mask32 1 1 2 _ rfl rfl (by omega) (by omega) (by omega)
  rw [sg_21]
  by_cases hs : n < 1048576
  · have hx : (n / 1048576 % 2 == 1) = false := by
      rw [beq_eq_false_iff_ne]; omega
    rw [if_pos hs]
    go_enter Tryd.func49, Tryd.ntmps49
    go_wp2
    go_ret
    exact ⟨rfl, rfl⟩
  · have hx : (n / 1048576 % 2 == 1) = true := by
      rw [beq_iff_eq]; omega
    rw [if_neg hs]
    go_enter Tryd.func49, Tryd.ntmps49
    go_wp2
    go_ret
    exact ⟨rfl, rfl⟩
theorem raw_J2 (w : Int) : bits .or .u32 (bits .or .u32 (bits .or .u32 (w / 2097152 % 1024 * 2) (w / 1048576 % 2 * 2048)) (w / 4096 % 256 * 4096)) (w / 2147483648 % 2 * 1048576) = raw 74 w := by
  show _ = w / 4096 % 256 * 4096 + w / 1048576 % 2 * 2048 + w / 2097152 % 1024 * 2 + w / 2147483648 % 2 * 1048576
  have c1 : 0 ≤ w / 4096 % 256 ∧ w / 4096 % 256 < 256 := by omega
  have c2 : 0 ≤ w / 1048576 % 2 ∧ w / 1048576 % 2 < 2 := by omega
  have c3 : 0 ≤ w / 2097152 % 1024 ∧ w / 2097152 % 1024 < 1024 := by omega
  have c4 : 0 ≤ w / 2147483648 % 2 ∧ w / 2147483648 % 2 < 2 := by omega
  generalize w / 4096 % 256 = x at *
  generalize w / 1048576 % 2 = y at *
  generalize w / 2097152 % 1024 = z at *
  generalize w / 2147483648 % 2 = t at *
  rw [or_lh 11 2048 (z * 2) (y * 2048) rfl (by omega) (by omega) (by omega) (by omega) (by omega) (by omega), or_lh 12 4096 (z * 2 + y * 2048) (x * 4096) rfl (by omega) (by omega) (by omega) (by omega) (by omega) (by omega), or_lh 20 1048576 (z * 2 + y * 2048 + x * 4096) (t * 1048576) rfl (by omega) (by omega) (by omega) (by omega) (by omega) (by omega)]
  omega
theorem belowA0 {w w1 : World} {o : Obj} (hb : Below (w.alloc o).heap.size (w.alloc o) w1) : Below w.heap.size w w1 :=
  ((Below.refl w.heap.size w).alloc (Nat.le_refl _) o).trans (hb.mono (by simp))
theorem five0 {w w1 : World} (hb : Below (w.alloc (.cells #[.int .i64 0, .int .i64 0, .int .i64 0, .int .i64 0, .int .i64 0] 23)).heap.size (w.alloc (.cells #[.int .i64 0, .int .i64 0, .int .i64 0, .int .i64 0, .int .i64 0] 23)) w1) (i : Nat) (hi : i < 5) : w1.cell? ⟨w.heap.size, i, none⟩ = some (.int .i64 0) ∧ w1.frozen? ⟨w.heap.size, i, none⟩ = false := by
  rw [hb.cell (p := ⟨w.heap.size, i, none⟩) (by simp), hb.frozen (p := ⟨w.heap.size, i, none⟩) (by simp)]
  have e : i = 0 ∨ i = 1 ∨ i = 2 ∨ i = 3 ∨ i = 4 := by omega
  rcases e with rfl | rfl | rfl | rfl | rfl <;> exact ⟨by go_simp, by go_simp⟩
end Go.Proofs.YtndbkkldfinggaaDoor
