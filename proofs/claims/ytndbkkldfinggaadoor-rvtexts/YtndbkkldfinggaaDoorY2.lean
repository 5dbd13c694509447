/- What the document's table (FormOf) answers at some operations, walked. -/
import Derived.Test.YtndbkkldfinggaaDoorProg
import Derived.WalkKit
import Derived.WalkSpells
import Derived.WalkLawsBesides
import Derived.RegionTactic
namespace Go.Proofs.YtndbkkldfinggaaDoor
open Go.RowKit
set_option maxRecDepth 20000 in
set_option maxHeartbeats 2000000 in
theorem form37_3 (w : World) : Calls Tryd.prog 37 #[.int .i64 3] w fun e w' => e = .returned (.agg #[.int .u8 74, .int .u32 111, .int .u32 0, .int .u32 0]) ∧ Below w.heap.size w w' := by
  go_enter Tryd.func37, Tryd.ntmps37
  go_wp2
  all_goals refine bodyPost_ret (v := .agg #[.int .u8 74, .int .u32 111, .int .u32 0, .int .u32 0]) (by simp [results, Tryd.results37, go_sem]) rfl ⟨rfl, ?_⟩
  all_goals exact (Below.refl _ _).alloc (Nat.le_refl _) _
set_option maxRecDepth 20000 in
set_option maxHeartbeats 2000000 in
theorem form37_6 (w : World) : Calls Tryd.prog 37 #[.int .i64 6] w fun e w' => e = .returned (.agg #[.int .u8 66, .int .u32 99, .int .u32 1, .int .u32 0]) ∧ Below w.heap.size w w' := by
  go_enter Tryd.func37, Tryd.ntmps37
  go_wp2
  all_goals refine bodyPost_ret (v := .agg #[.int .u8 66, .int .u32 99, .int .u32 1, .int .u32 0]) (by simp [results, Tryd.results37, go_sem]) rfl ⟨rfl, ?_⟩
  all_goals exact ((Below.refl _ _).alloc (Nat.le_refl _) _).alloc (by simp) _
set_option maxRecDepth 20000 in
set_option maxHeartbeats 2000000 in
theorem form37_9 (w : World) : Calls Tryd.prog 37 #[.int .i64 9] w fun e w' => e = .returned (.agg #[.int .u8 66, .int .u32 99, .int .u32 6, .int .u32 0]) ∧ Below w.heap.size w w' := by
  go_enter Tryd.func37, Tryd.ntmps37
  go_wp2
  all_goals refine bodyPost_ret (v := .agg #[.int .u8 66, .int .u32 99, .int .u32 6, .int .u32 0]) (by simp [results, Tryd.results37, go_sem]) rfl ⟨rfl, ?_⟩
  all_goals exact ((Below.refl _ _).alloc (Nat.le_refl _) _).alloc (by simp) _
set_option maxRecDepth 20000 in
set_option maxHeartbeats 2000000 in
theorem form37_12 (w : World) : Calls Tryd.prog 37 #[.int .i64 12] w fun e w' => e = .returned (.agg #[.int .u8 73, .int .u32 3, .int .u32 1, .int .u32 0]) ∧ Below w.heap.size w w' := by
  go_enter Tryd.func37, Tryd.ntmps37
  go_wp2
  all_goals refine bodyPost_ret (v := .agg #[.int .u8 73, .int .u32 3, .int .u32 1, .int .u32 0]) (by simp [results, Tryd.results37, go_sem]) rfl ⟨rfl, ?_⟩
  all_goals exact (Below.refl _ _).alloc (Nat.le_refl _) _
set_option maxRecDepth 20000 in
set_option maxHeartbeats 2000000 in
theorem form37_15 (w : World) : Calls Tryd.prog 37 #[.int .i64 15] w fun e w' => e = .returned (.agg #[.int .u8 73, .int .u32 3, .int .u32 4, .int .u32 0]) ∧ Below w.heap.size w w' := by
  go_enter Tryd.func37, Tryd.ntmps37
  go_wp2
  all_goals refine bodyPost_ret (v := .agg #[.int .u8 73, .int .u32 3, .int .u32 4, .int .u32 0]) (by simp [results, Tryd.results37, go_sem]) rfl ⟨rfl, ?_⟩
  all_goals exact (Below.refl _ _).alloc (Nat.le_refl _) _
set_option maxRecDepth 20000 in
set_option maxHeartbeats 2000000 in
theorem form37_18 (w : World) : Calls Tryd.prog 37 #[.int .i64 18] w fun e w' => e = .returned (.agg #[.int .u8 83, .int .u32 35, .int .u32 0, .int .u32 0]) ∧ Below w.heap.size w w' := by
  go_enter Tryd.func37, Tryd.ntmps37
  go_wp2
  all_goals refine bodyPost_ret (v := .agg #[.int .u8 83, .int .u32 35, .int .u32 0, .int .u32 0]) (by simp [results, Tryd.results37, go_sem]) rfl ⟨rfl, ?_⟩
  all_goals exact (Below.refl _ _).alloc (Nat.le_refl _) _
set_option maxRecDepth 20000 in
set_option maxHeartbeats 2000000 in
theorem form37_21 (w : World) : Calls Tryd.prog 37 #[.int .i64 21] w fun e w' => e = .returned (.agg #[.int .u8 83, .int .u32 35, .int .u32 3, .int .u32 0]) ∧ Below w.heap.size w w' := by
  go_enter Tryd.func37, Tryd.ntmps37
  go_wp2
  all_goals refine bodyPost_ret (v := .agg #[.int .u8 83, .int .u32 35, .int .u32 3, .int .u32 0]) (by simp [results, Tryd.results37, go_sem]) rfl ⟨rfl, ?_⟩
  all_goals exact (Below.refl _ _).alloc (Nat.le_refl _) _
set_option maxRecDepth 20000 in
set_option maxHeartbeats 2000000 in
theorem form37_24 (w : World) : Calls Tryd.prog 37 #[.int .i64 24] w fun e w' => e = .returned (.agg #[.int .u8 73, .int .u32 19, .int .u32 3, .int .u32 0]) ∧ Below w.heap.size w w' := by
  go_enter Tryd.func37, Tryd.ntmps37
  go_wp2
  all_goals refine bodyPost_ret (v := .agg #[.int .u8 73, .int .u32 19, .int .u32 3, .int .u32 0]) (by simp [results, Tryd.results37, go_sem]) rfl ⟨rfl, ?_⟩
  all_goals exact ((Below.refl _ _).alloc (Nat.le_refl _) _).alloc (by simp) _
set_option maxRecDepth 20000 in
set_option maxHeartbeats 2000000 in
theorem form37_27 (w : World) : Calls Tryd.prog 37 #[.int .i64 27] w fun e w' => e = .returned (.agg #[.int .u8 73, .int .u32 19, .int .u32 7, .int .u32 0]) ∧ Below w.heap.size w w' := by
  go_enter Tryd.func37, Tryd.ntmps37
  go_wp2
  all_goals refine bodyPost_ret (v := .agg #[.int .u8 73, .int .u32 19, .int .u32 7, .int .u32 0]) (by simp [results, Tryd.results37, go_sem]) rfl ⟨rfl, ?_⟩
  all_goals exact ((Below.refl _ _).alloc (Nat.le_refl _) _).alloc (by simp) _
set_option maxRecDepth 20000 in
set_option maxHeartbeats 2000000 in
theorem form37_51 (w : World) : Calls Tryd.prog 37 #[.int .i64 51] w fun e w' => e = .returned (.agg #[.int .u8 82, .int .u32 51, .int .u32 1, .int .u32 1]) ∧ Below w.heap.size w w' := by
  go_enter Tryd.func37, Tryd.ntmps37
  go_wp2
  all_goals refine bodyPost_ret (v := .agg #[.int .u8 82, .int .u32 51, .int .u32 1, .int .u32 1]) (by simp [results, Tryd.results37, go_sem]) rfl ⟨rfl, ?_⟩
  all_goals exact (Below.refl _ _).alloc (Nat.le_refl _) _
set_option maxRecDepth 20000 in
set_option maxHeartbeats 2000000 in
theorem form37_54 (w : World) : Calls Tryd.prog 37 #[.int .i64 54] w fun e w' => e = .returned (.agg #[.int .u8 82, .int .u32 51, .int .u32 4, .int .u32 1]) ∧ Below w.heap.size w w' := by
  go_enter Tryd.func37, Tryd.ntmps37
  go_wp2
  all_goals refine bodyPost_ret (v := .agg #[.int .u8 82, .int .u32 51, .int .u32 4, .int .u32 1]) (by simp [results, Tryd.results37, go_sem]) rfl ⟨rfl, ?_⟩
  all_goals exact (Below.refl _ _).alloc (Nat.le_refl _) _
set_option maxRecDepth 20000 in
set_option maxHeartbeats 2000000 in
theorem form37_57 (w : World) : Calls Tryd.prog 37 #[.int .i64 57] w fun e w' => e = .returned (.agg #[.int .u8 82, .int .u32 51, .int .u32 7, .int .u32 1]) ∧ Below w.heap.size w w' := by
  go_enter Tryd.func37, Tryd.ntmps37
  go_wp2
  all_goals refine bodyPost_ret (v := .agg #[.int .u8 82, .int .u32 51, .int .u32 7, .int .u32 1]) (by simp [results, Tryd.results37, go_sem]) rfl ⟨rfl, ?_⟩
  all_goals exact (Below.refl _ _).alloc (Nat.le_refl _) _
set_option maxRecDepth 20000 in
set_option maxHeartbeats 2000000 in
theorem form37_60 (w : World) : Calls Tryd.prog 37 #[.int .i64 60] w fun e w' => e = .returned (.agg #[.int .u8 82, .int .u32 59, .int .u32 5, .int .u32 1]) ∧ Below w.heap.size w w' := by
  go_enter Tryd.func37, Tryd.ntmps37
  go_wp2
  all_goals refine bodyPost_ret (v := .agg #[.int .u8 82, .int .u32 59, .int .u32 5, .int .u32 1]) (by simp [results, Tryd.results37, go_sem]) rfl ⟨rfl, ?_⟩
  all_goals exact ((Below.refl _ _).alloc (Nat.le_refl _) _).alloc (by simp) _
set_option maxRecDepth 20000 in
set_option maxHeartbeats 2000000 in
theorem form37_63 (w : World) : Calls Tryd.prog 37 #[.int .i64 63] w fun e w' => e = .returned (.agg #[.int .u8 78, .int .u32 15, .int .u32 0, .int .u32 0]) ∧ Below w.heap.size w w' := by
  go_enter Tryd.func37, Tryd.ntmps37
  go_wp2
  all_goals refine bodyPost_ret (v := .agg #[.int .u8 78, .int .u32 15, .int .u32 0, .int .u32 0]) (by simp [results, Tryd.results37, go_sem]) rfl ⟨rfl, ?_⟩
  all_goals exact (Below.refl _ _).alloc (Nat.le_refl _) _
end Go.Proofs.YtndbkkldfinggaaDoor
