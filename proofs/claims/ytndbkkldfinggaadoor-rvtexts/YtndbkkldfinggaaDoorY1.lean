/- What the document's table (FormOf) answers at some operations, walked. -/
import Derived.Test.YtndbkkldfinggaaDoorProg
import Derived.WalkKit
import Derived.WalkSpells
import Derived.WalkLawsBesides
import Derived.RegionTactic
namespace Go.Proofs.YtndbkkldfinggaaDoor
open Go.RowKit
set_option maxRecDepth 20000 in
set_option maxHeartbeats 2000000 in
theorem form37_2 (w : World) : Calls Tryd.prog 37 #[.int .i64 2] w fun e w' => e = .returned (.agg #[.int .u8 85, .int .u32 23, .int .u32 0, .int .u32 0]) ∧ Below w.heap.size w w' := by
  go_enter Tryd.func37, Tryd.ntmps37
  go_wp2
  all_goals refine bodyPost_ret (v := .agg #[.int .u8 85, .int .u32 23, .int .u32 0, .int .u32 0]) (by simp [results, Tryd.results37, go_sem]) rfl ⟨rfl, ?_⟩
  all_goals exact (Below.refl _ _).alloc (Nat.le_refl _) _
set_option maxRecDepth 20000 in
set_option maxHeartbeats 2000000 in
theorem form37_5 (w : World) : Calls Tryd.prog 37 #[.int .i64 5] w fun e w' => e = .returned (.agg #[.int .u8 66, .int .u32 99, .int .u32 0, .int .u32 0]) ∧ Below w.heap.size w w' := by
  go_enter Tryd.func37, Tryd.ntmps37
  go_wp2
  all_goals refine bodyPost_ret (v := .agg #[.int .u8 66, .int .u32 99, .int .u32 0, .int .u32 0]) (by simp [results, Tryd.results37, go_sem]) rfl ⟨rfl, ?_⟩
  all_goals exact ((Below.refl _ _).alloc (Nat.le_refl _) _).alloc (by simp) _
set_option maxRecDepth 20000 in
set_option maxHeartbeats 2000000 in
theorem form37_8 (w : World) : Calls Tryd.prog 37 #[.int .i64 8] w fun e w' => e = .returned (.agg #[.int .u8 66, .int .u32 99, .int .u32 5, .int .u32 0]) ∧ Below w.heap.size w w' := by
  go_enter Tryd.func37, Tryd.ntmps37
  go_wp2
  all_goals refine bodyPost_ret (v := .agg #[.int .u8 66, .int .u32 99, .int .u32 5, .int .u32 0]) (by simp [results, Tryd.results37, go_sem]) rfl ⟨rfl, ?_⟩
  all_goals exact ((Below.refl _ _).alloc (Nat.le_refl _) _).alloc (by simp) _
set_option maxRecDepth 20000 in
set_option maxHeartbeats 2000000 in
theorem form37_11 (w : World) : Calls Tryd.prog 37 #[.int .i64 11] w fun e w' => e = .returned (.agg #[.int .u8 73, .int .u32 3, .int .u32 0, .int .u32 0]) ∧ Below w.heap.size w w' := by
  go_enter Tryd.func37, Tryd.ntmps37
  go_wp2
  all_goals refine bodyPost_ret (v := .agg #[.int .u8 73, .int .u32 3, .int .u32 0, .int .u32 0]) (by simp [results, Tryd.results37, go_sem]) rfl ⟨rfl, ?_⟩
  all_goals exact (Below.refl _ _).alloc (Nat.le_refl _) _
set_option maxRecDepth 20000 in
set_option maxHeartbeats 2000000 in
theorem form37_14 (w : World) : Calls Tryd.prog 37 #[.int .i64 14] w fun e w' => e = .returned (.agg #[.int .u8 73, .int .u32 3, .int .u32 3, .int .u32 0]) ∧ Below w.heap.size w w' := by
  go_enter Tryd.func37, Tryd.ntmps37
  go_wp2
  all_goals refine bodyPost_ret (v := .agg #[.int .u8 73, .int .u32 3, .int .u32 3, .int .u32 0]) (by simp [results, Tryd.results37, go_sem]) rfl ⟨rfl, ?_⟩
  all_goals exact (Below.refl _ _).alloc (Nat.le_refl _) _
set_option maxRecDepth 20000 in
set_option maxHeartbeats 2000000 in
theorem form37_17 (w : World) : Calls Tryd.prog 37 #[.int .i64 17] w fun e w' => e = .returned (.agg #[.int .u8 73, .int .u32 3, .int .u32 6, .int .u32 0]) ∧ Below w.heap.size w w' := by
  go_enter Tryd.func37, Tryd.ntmps37
  go_wp2
  all_goals refine bodyPost_ret (v := .agg #[.int .u8 73, .int .u32 3, .int .u32 6, .int .u32 0]) (by simp [results, Tryd.results37, go_sem]) rfl ⟨rfl, ?_⟩
  all_goals exact (Below.refl _ _).alloc (Nat.le_refl _) _
set_option maxRecDepth 20000 in
set_option maxHeartbeats 2000000 in
theorem form37_20 (w : World) : Calls Tryd.prog 37 #[.int .i64 20] w fun e w' => e = .returned (.agg #[.int .u8 83, .int .u32 35, .int .u32 2, .int .u32 0]) ∧ Below w.heap.size w w' := by
  go_enter Tryd.func37, Tryd.ntmps37
  go_wp2
  all_goals refine bodyPost_ret (v := .agg #[.int .u8 83, .int .u32 35, .int .u32 2, .int .u32 0]) (by simp [results, Tryd.results37, go_sem]) rfl ⟨rfl, ?_⟩
  all_goals exact (Below.refl _ _).alloc (Nat.le_refl _) _
set_option maxRecDepth 20000 in
set_option maxHeartbeats 2000000 in
theorem form37_23 (w : World) : Calls Tryd.prog 37 #[.int .i64 23] w fun e w' => e = .returned (.agg #[.int .u8 73, .int .u32 19, .int .u32 2, .int .u32 0]) ∧ Below w.heap.size w w' := by
  go_enter Tryd.func37, Tryd.ntmps37
  go_wp2
  all_goals refine bodyPost_ret (v := .agg #[.int .u8 73, .int .u32 19, .int .u32 2, .int .u32 0]) (by simp [results, Tryd.results37, go_sem]) rfl ⟨rfl, ?_⟩
  all_goals exact ((Below.refl _ _).alloc (Nat.le_refl _) _).alloc (by simp) _
set_option maxRecDepth 20000 in
set_option maxHeartbeats 2000000 in
theorem form37_26 (w : World) : Calls Tryd.prog 37 #[.int .i64 26] w fun e w' => e = .returned (.agg #[.int .u8 73, .int .u32 19, .int .u32 6, .int .u32 0]) ∧ Below w.heap.size w w' := by
  go_enter Tryd.func37, Tryd.ntmps37
  go_wp2
  all_goals refine bodyPost_ret (v := .agg #[.int .u8 73, .int .u32 19, .int .u32 6, .int .u32 0]) (by simp [results, Tryd.results37, go_sem]) rfl ⟨rfl, ?_⟩
  all_goals exact ((Below.refl _ _).alloc (Nat.le_refl _) _).alloc (by simp) _
set_option maxRecDepth 20000 in
set_option maxHeartbeats 2000000 in
theorem form37_50 (w : World) : Calls Tryd.prog 37 #[.int .i64 50] w fun e w' => e = .returned (.agg #[.int .u8 82, .int .u32 51, .int .u32 0, .int .u32 1]) ∧ Below w.heap.size w w' := by
  go_enter Tryd.func37, Tryd.ntmps37
  go_wp2
  all_goals refine bodyPost_ret (v := .agg #[.int .u8 82, .int .u32 51, .int .u32 0, .int .u32 1]) (by simp [results, Tryd.results37, go_sem]) rfl ⟨rfl, ?_⟩
  all_goals exact (Below.refl _ _).alloc (Nat.le_refl _) _
set_option maxRecDepth 20000 in
set_option maxHeartbeats 2000000 in
theorem form37_53 (w : World) : Calls Tryd.prog 37 #[.int .i64 53] w fun e w' => e = .returned (.agg #[.int .u8 82, .int .u32 51, .int .u32 3, .int .u32 1]) ∧ Below w.heap.size w w' := by
  go_enter Tryd.func37, Tryd.ntmps37
  go_wp2
  all_goals refine bodyPost_ret (v := .agg #[.int .u8 82, .int .u32 51, .int .u32 3, .int .u32 1]) (by simp [results, Tryd.results37, go_sem]) rfl ⟨rfl, ?_⟩
  all_goals exact (Below.refl _ _).alloc (Nat.le_refl _) _
set_option maxRecDepth 20000 in
set_option maxHeartbeats 2000000 in
theorem form37_56 (w : World) : Calls Tryd.prog 37 #[.int .i64 56] w fun e w' => e = .returned (.agg #[.int .u8 82, .int .u32 51, .int .u32 6, .int .u32 1]) ∧ Below w.heap.size w w' := by
  go_enter Tryd.func37, Tryd.ntmps37
  go_wp2
  all_goals refine bodyPost_ret (v := .agg #[.int .u8 82, .int .u32 51, .int .u32 6, .int .u32 1]) (by simp [results, Tryd.results37, go_sem]) rfl ⟨rfl, ?_⟩
  all_goals exact (Below.refl _ _).alloc (Nat.le_refl _) _
set_option maxRecDepth 20000 in
set_option maxHeartbeats 2000000 in
theorem form37_59 (w : World) : Calls Tryd.prog 37 #[.int .i64 59] w fun e w' => e = .returned (.agg #[.int .u8 82, .int .u32 59, .int .u32 4, .int .u32 1]) ∧ Below w.heap.size w w' := by
  go_enter Tryd.func37, Tryd.ntmps37
  go_wp2
  all_goals refine bodyPost_ret (v := .agg #[.int .u8 82, .int .u32 59, .int .u32 4, .int .u32 1]) (by simp [results, Tryd.results37, go_sem]) rfl ⟨rfl, ?_⟩
  all_goals exact ((Below.refl _ _).alloc (Nat.le_refl _) _).alloc (by simp) _
set_option maxRecDepth 20000 in
set_option maxHeartbeats 2000000 in
theorem form37_62 (w : World) : Calls Tryd.prog 37 #[.int .i64 62] w fun e w' => e = .returned (.agg #[.int .u8 82, .int .u32 59, .int .u32 7, .int .u32 1]) ∧ Below w.heap.size w w' := by
  go_enter Tryd.func37, Tryd.ntmps37
  go_wp2
  all_goals refine bodyPost_ret (v := .agg #[.int .u8 82, .int .u32 59, .int .u32 7, .int .u32 1]) (by simp [results, Tryd.results37, go_sem]) rfl ⟨rfl, ?_⟩
  all_goals exact ((Below.refl _ _).alloc (Nat.le_refl _) _).alloc (by simp) _
set_option maxRecDepth 20000 in
set_option maxHeartbeats 2000000 in
theorem form37_65 (w : World) : Calls Tryd.prog 37 #[.int .i64 65] w fun e w' => e = .returned (.agg #[.int .u8 78, .int .u32 1048691, .int .u32 0, .int .u32 0]) ∧ Below w.heap.size w w' := by
  go_enter Tryd.func37, Tryd.ntmps37
  go_wp2
  all_goals refine bodyPost_ret (v := .agg #[.int .u8 78, .int .u32 1048691, .int .u32 0, .int .u32 0]) (by simp [results, Tryd.results37, go_sem]) rfl ⟨rfl, ?_⟩
  all_goals exact (Below.refl _ _).alloc (Nat.le_refl _) _
end Go.Proofs.YtndbkkldfinggaaDoor
