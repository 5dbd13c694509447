/- What the document's table (FormOf) answers at some operations, walked. -/
import Derived.Test.YtndbkkldfinggaaDoorProg
import Derived.WalkKit
import Derived.WalkSpells
import Derived.WalkLawsBesides
import Derived.RegionTactic
namespace Go.Proofs.YtndbkkldfinggaaDoor
open Go.RowKit
set_option maxRecDepth 20000 in
set_option maxHeartbeats 2000000 in
theorem form37_1 (w : World) : Calls Tryd.prog 37 #[.int .i64 1] w fun e w' => e = .returned (.agg #[.int .u8 85, .int .u32 55, .int .u32 0, .int .u32 0]) ∧ Below w.heap.size w w' := by
  go_enter Tryd.func37, Tryd.ntmps37
  go_wp2
  all_goals refine bodyPost_ret (v := .agg #[.int .u8 85, .int .u32 55, .int .u32 0, .int .u32 0]) (by simp [results, Tryd.results37, go_sem]) rfl ⟨rfl, ?_⟩
  all_goals exact (Below.refl _ _).alloc (Nat.le_refl _) _
set_option maxRecDepth 20000 in
set_option maxHeartbeats 2000000 in
theorem form37_4 (w : World) : Calls Tryd.prog 37 #[.int .i64 4] w fun e w' => e = .returned (.agg #[.int .u8 73, .int .u32 103, .int .u32 0, .int .u32 0]) ∧ Below w.heap.size w w' := by
  go_enter Tryd.func37, Tryd.ntmps37
  go_wp2
  all_goals refine bodyPost_ret (v := .agg #[.int .u8 73, .int .u32 103, .int .u32 0, .int .u32 0]) (by simp [results, Tryd.results37, go_sem]) rfl ⟨rfl, ?_⟩
  all_goals exact (Below.refl _ _).alloc (Nat.le_refl _) _
set_option maxRecDepth 20000 in
set_option maxHeartbeats 2000000 in
theorem form37_7 (w : World) : Calls Tryd.prog 37 #[.int .i64 7] w fun e w' => e = .returned (.agg #[.int .u8 66, .int .u32 99, .int .u32 4, .int .u32 0]) ∧ Below w.heap.size w w' := by
  go_enter Tryd.func37, Tryd.ntmps37
  go_wp2
  all_goals refine bodyPost_ret (v := .agg #[.int .u8 66, .int .u32 99, .int .u32 4, .int .u32 0]) (by simp [results, Tryd.results37, go_sem]) rfl ⟨rfl, ?_⟩
  all_goals exact ((Below.refl _ _).alloc (Nat.le_refl _) _).alloc (by simp) _
set_option maxRecDepth 20000 in
set_option maxHeartbeats 2000000 in
theorem form37_10 (w : World) : Calls Tryd.prog 37 #[.int .i64 10] w fun e w' => e = .returned (.agg #[.int .u8 66, .int .u32 99, .int .u32 7, .int .u32 0]) ∧ Below w.heap.size w w' := by
  go_enter Tryd.func37, Tryd.ntmps37
  go_wp2
  all_goals refine bodyPost_ret (v := .agg #[.int .u8 66, .int .u32 99, .int .u32 7, .int .u32 0]) (by simp [results, Tryd.results37, go_sem]) rfl ⟨rfl, ?_⟩
  all_goals exact ((Below.refl _ _).alloc (Nat.le_refl _) _).alloc (by simp) _
set_option maxRecDepth 20000 in
set_option maxHeartbeats 2000000 in
theorem form37_13 (w : World) : Calls Tryd.prog 37 #[.int .i64 13] w fun e w' => e = .returned (.agg #[.int .u8 73, .int .u32 3, .int .u32 2, .int .u32 0]) ∧ Below w.heap.size w w' := by
  go_enter Tryd.func37, Tryd.ntmps37
  go_wp2
  all_goals refine bodyPost_ret (v := .agg #[.int .u8 73, .int .u32 3, .int .u32 2, .int .u32 0]) (by simp [results, Tryd.results37, go_sem]) rfl ⟨rfl, ?_⟩
  all_goals exact (Below.refl _ _).alloc (Nat.le_refl _) _
set_option maxRecDepth 20000 in
set_option maxHeartbeats 2000000 in
theorem form37_16 (w : World) : Calls Tryd.prog 37 #[.int .i64 16] w fun e w' => e = .returned (.agg #[.int .u8 73, .int .u32 3, .int .u32 5, .int .u32 0]) ∧ Below w.heap.size w w' := by
  go_enter Tryd.func37, Tryd.ntmps37
  go_wp2
  all_goals refine bodyPost_ret (v := .agg #[.int .u8 73, .int .u32 3, .int .u32 5, .int .u32 0]) (by simp [results, Tryd.results37, go_sem]) rfl ⟨rfl, ?_⟩
  all_goals exact (Below.refl _ _).alloc (Nat.le_refl _) _
set_option maxRecDepth 20000 in
set_option maxHeartbeats 2000000 in
theorem form37_19 (w : World) : Calls Tryd.prog 37 #[.int .i64 19] w fun e w' => e = .returned (.agg #[.int .u8 83, .int .u32 35, .int .u32 1, .int .u32 0]) ∧ Below w.heap.size w w' := by
  go_enter Tryd.func37, Tryd.ntmps37
  go_wp2
  all_goals refine bodyPost_ret (v := .agg #[.int .u8 83, .int .u32 35, .int .u32 1, .int .u32 0]) (by simp [results, Tryd.results37, go_sem]) rfl ⟨rfl, ?_⟩
  all_goals exact (Below.refl _ _).alloc (Nat.le_refl _) _
set_option maxRecDepth 20000 in
set_option maxHeartbeats 2000000 in
theorem form37_22 (w : World) : Calls Tryd.prog 37 #[.int .i64 22] w fun e w' => e = .returned (.agg #[.int .u8 73, .int .u32 19, .int .u32 0, .int .u32 0]) ∧ Below w.heap.size w w' := by
  go_enter Tryd.func37, Tryd.ntmps37
  go_wp2
  all_goals refine bodyPost_ret (v := .agg #[.int .u8 73, .int .u32 19, .int .u32 0, .int .u32 0]) (by simp [results, Tryd.results37, go_sem]) rfl ⟨rfl, ?_⟩
  all_goals exact ((Below.refl _ _).alloc (Nat.le_refl _) _).alloc (by simp) _
set_option maxRecDepth 20000 in
set_option maxHeartbeats 2000000 in
theorem form37_25 (w : World) : Calls Tryd.prog 37 #[.int .i64 25] w fun e w' => e = .returned (.agg #[.int .u8 73, .int .u32 19, .int .u32 4, .int .u32 0]) ∧ Below w.heap.size w w' := by
  go_enter Tryd.func37, Tryd.ntmps37
  go_wp2
  all_goals refine bodyPost_ret (v := .agg #[.int .u8 73, .int .u32 19, .int .u32 4, .int .u32 0]) (by simp [results, Tryd.results37, go_sem]) rfl ⟨rfl, ?_⟩
  all_goals exact ((Below.refl _ _).alloc (Nat.le_refl _) _).alloc (by simp) _
set_option maxRecDepth 20000 in
set_option maxHeartbeats 2000000 in
theorem form37_31 (w : World) : Calls Tryd.prog 37 #[.int .i64 31] w fun e w' => e = .returned (.agg #[.int .u8 73, .int .u32 27, .int .u32 0, .int .u32 0]) ∧ Below w.heap.size w w' := by
  go_enter Tryd.func37, Tryd.ntmps37
  go_wp2
  all_goals refine bodyPost_ret (v := .agg #[.int .u8 73, .int .u32 27, .int .u32 0, .int .u32 0]) (by simp [results, Tryd.results37, go_sem]) rfl ⟨rfl, ?_⟩
  all_goals exact (Below.refl _ _).alloc (Nat.le_refl _) _
set_option maxRecDepth 20000 in
set_option maxHeartbeats 2000000 in
theorem form37_52 (w : World) : Calls Tryd.prog 37 #[.int .i64 52] w fun e w' => e = .returned (.agg #[.int .u8 82, .int .u32 51, .int .u32 2, .int .u32 1]) ∧ Below w.heap.size w w' := by
  go_enter Tryd.func37, Tryd.ntmps37
  go_wp2
  all_goals refine bodyPost_ret (v := .agg #[.int .u8 82, .int .u32 51, .int .u32 2, .int .u32 1]) (by simp [results, Tryd.results37, go_sem]) rfl ⟨rfl, ?_⟩
  all_goals exact (Below.refl _ _).alloc (Nat.le_refl _) _
set_option maxRecDepth 20000 in
set_option maxHeartbeats 2000000 in
theorem form37_55 (w : World) : Calls Tryd.prog 37 #[.int .i64 55] w fun e w' => e = .returned (.agg #[.int .u8 82, .int .u32 51, .int .u32 5, .int .u32 1]) ∧ Below w.heap.size w w' := by
  go_enter Tryd.func37, Tryd.ntmps37
  go_wp2
  all_goals refine bodyPost_ret (v := .agg #[.int .u8 82, .int .u32 51, .int .u32 5, .int .u32 1]) (by simp [results, Tryd.results37, go_sem]) rfl ⟨rfl, ?_⟩
  all_goals exact (Below.refl _ _).alloc (Nat.le_refl _) _
set_option maxRecDepth 20000 in
set_option maxHeartbeats 2000000 in
theorem form37_58 (w : World) : Calls Tryd.prog 37 #[.int .i64 58] w fun e w' => e = .returned (.agg #[.int .u8 82, .int .u32 59, .int .u32 0, .int .u32 1]) ∧ Below w.heap.size w w' := by
  go_enter Tryd.func37, Tryd.ntmps37
  go_wp2
  all_goals refine bodyPost_ret (v := .agg #[.int .u8 82, .int .u32 59, .int .u32 0, .int .u32 1]) (by simp [results, Tryd.results37, go_sem]) rfl ⟨rfl, ?_⟩
  all_goals exact ((Below.refl _ _).alloc (Nat.le_refl _) _).alloc (by simp) _
set_option maxRecDepth 20000 in
set_option maxHeartbeats 2000000 in
theorem form37_61 (w : World) : Calls Tryd.prog 37 #[.int .i64 61] w fun e w' => e = .returned (.agg #[.int .u8 82, .int .u32 59, .int .u32 6, .int .u32 1]) ∧ Below w.heap.size w w' := by
  go_enter Tryd.func37, Tryd.ntmps37
  go_wp2
  all_goals refine bodyPost_ret (v := .agg #[.int .u8 82, .int .u32 59, .int .u32 6, .int .u32 1]) (by simp [results, Tryd.results37, go_sem]) rfl ⟨rfl, ?_⟩
  all_goals exact ((Below.refl _ _).alloc (Nat.le_refl _) _).alloc (by simp) _
set_option maxRecDepth 20000 in
set_option maxHeartbeats 2000000 in
theorem form37_64 (w : World) : Calls Tryd.prog 37 #[.int .i64 64] w fun e w' => e = .returned (.agg #[.int .u8 78, .int .u32 115, .int .u32 0, .int .u32 0]) ∧ Below w.heap.size w w' := by
  go_enter Tryd.func37, Tryd.ntmps37
  go_wp2
  all_goals refine bodyPost_ret (v := .agg #[.int .u8 78, .int .u32 115, .int .u32 0, .int .u32 0]) (by simp [results, Tryd.results37, go_sem]) rfl ⟨rfl, ?_⟩
  all_goals exact (Below.refl _ _).alloc (Nat.le_refl _) _
set_option maxRecDepth 20000 in
set_option maxHeartbeats 2000000 in
theorem form37_lo (op : Int) (h : op < 1) (w : World) : Calls Tryd.prog 37 #[.int .i64 op] w fun e w' => e = .returned (.agg #[.int .u8 0, .int .u32 0, .int .u32 0, .int .u32 0]) ∧ Below w.heap.size w w' := by
  go_enter Tryd.func37, Tryd.ntmps37
  go_wp2
  all_goals refine bodyPost_ret (v := .agg #[.int .u8 0, .int .u32 0, .int .u32 0, .int .u32 0]) (by simp [results, Tryd.results37, go_sem]) rfl ⟨rfl, ?_⟩
  all_goals exact (Below.refl _ _).alloc (Nat.le_refl _) _
set_option maxRecDepth 20000 in
set_option maxHeartbeats 2000000 in
theorem form37_hi (op : Int) (h : 65 < op) (w : World) : Calls Tryd.prog 37 #[.int .i64 op] w fun e w' => e = .returned (.agg #[.int .u8 0, .int .u32 0, .int .u32 0, .int .u32 0]) ∧ Below w.heap.size w w' := by
  go_enter Tryd.func37, Tryd.ntmps37
  go_wp2
  all_goals refine bodyPost_ret (v := .agg #[.int .u8 0, .int .u32 0, .int .u32 0, .int .u32 0]) (by simp [results, Tryd.results37, go_sem]) rfl ⟨rfl, ?_⟩
  all_goals exact (Below.refl _ _).alloc (Nat.le_refl _) _
end Go.Proofs.YtndbkkldfinggaaDoor
