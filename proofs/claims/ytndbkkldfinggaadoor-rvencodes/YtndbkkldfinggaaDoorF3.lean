/- What the document's table (FormOf) answers at some operations, walked. -/
import Derived.Test.YtndbkkldfinggaaDoorProg
import Derived.WalkKit
import Derived.WalkSpells
import Derived.WalkLawsBesides
import Derived.RegionTactic
namespace Go.Proofs.YtndbkkldfinggaaDoor
open Go.RowKit
set_option maxRecDepth 20000 in
set_option maxHeartbeats 2000000 in
theorem form37_4 (w : World) : Calls Tryd.prog 37 #[.int .i64 4] w fun e w' => e = .returned (.agg #[.int .u8 73, .int .u32 103, .int .u32 0, .int .u32 0]) ∧ Below w.heap.size w w' := by
  go_enter Tryd.func37, Tryd.ntmps37
  go_wp2
  all_goals refine bodyPost_ret (v := .agg #[.int .u8 73, .int .u32 103, .int .u32 0, .int .u32 0]) (by simp [results, Tryd.results37, go_sem]) rfl ⟨rfl, ?_⟩
  all_goals (repeat (first | exact Below.refl _ _ | refine Below.drew ?_ | refine Below.alloc ?_ (by simp <;> omega) _ | refine Below.setCell ?_ (by simp) _))
set_option maxRecDepth 20000 in
set_option maxHeartbeats 2000000 in
theorem form37_10 (w : World) : Calls Tryd.prog 37 #[.int .i64 10] w fun e w' => e = .returned (.agg #[.int .u8 66, .int .u32 99, .int .u32 7, .int .u32 0]) ∧ Below w.heap.size w w' := by
  go_enter Tryd.func37, Tryd.ntmps37
  go_wp2
  all_goals refine bodyPost_ret (v := .agg #[.int .u8 66, .int .u32 99, .int .u32 7, .int .u32 0]) (by simp [results, Tryd.results37, go_sem]) rfl ⟨rfl, ?_⟩
  all_goals (repeat (first | exact Below.refl _ _ | refine Below.drew ?_ | refine Below.alloc ?_ (by simp <;> omega) _ | refine Below.setCell ?_ (by simp) _))
set_option maxRecDepth 20000 in
set_option maxHeartbeats 2000000 in
theorem form37_16 (w : World) : Calls Tryd.prog 37 #[.int .i64 16] w fun e w' => e = .returned (.agg #[.int .u8 73, .int .u32 3, .int .u32 5, .int .u32 0]) ∧ Below w.heap.size w w' := by
  go_enter Tryd.func37, Tryd.ntmps37
  go_wp2
  all_goals refine bodyPost_ret (v := .agg #[.int .u8 73, .int .u32 3, .int .u32 5, .int .u32 0]) (by simp [results, Tryd.results37, go_sem]) rfl ⟨rfl, ?_⟩
  all_goals (repeat (first | exact Below.refl _ _ | refine Below.drew ?_ | refine Below.alloc ?_ (by simp <;> omega) _ | refine Below.setCell ?_ (by simp) _))
set_option maxRecDepth 20000 in
set_option maxHeartbeats 2000000 in
theorem form37_22 (w : World) : Calls Tryd.prog 37 #[.int .i64 22] w fun e w' => e = .returned (.agg #[.int .u8 73, .int .u32 19, .int .u32 0, .int .u32 0]) ∧ Below w.heap.size w w' := by
  go_enter Tryd.func37, Tryd.ntmps37
  go_wp2
  all_goals refine bodyPost_ret (v := .agg #[.int .u8 73, .int .u32 19, .int .u32 0, .int .u32 0]) (by simp [results, Tryd.results37, go_sem]) rfl ⟨rfl, ?_⟩
  all_goals (repeat (first | exact Below.refl _ _ | refine Below.drew ?_ | refine Below.alloc ?_ (by simp <;> omega) _ | refine Below.setCell ?_ (by simp) _))
set_option maxRecDepth 20000 in
set_option maxHeartbeats 2000000 in
theorem form37_31 (w : World) : Calls Tryd.prog 37 #[.int .i64 31] w fun e w' => e = .returned (.agg #[.int .u8 73, .int .u32 27, .int .u32 0, .int .u32 0]) ∧ Below w.heap.size w w' := by
  go_enter Tryd.func37, Tryd.ntmps37
  go_wp2
  all_goals refine bodyPost_ret (v := .agg #[.int .u8 73, .int .u32 27, .int .u32 0, .int .u32 0]) (by simp [results, Tryd.results37, go_sem]) rfl ⟨rfl, ?_⟩
  all_goals (repeat (first | exact Below.refl _ _ | refine Below.drew ?_ | refine Below.alloc ?_ (by simp <;> omega) _ | refine Below.setCell ?_ (by simp) _))
set_option maxRecDepth 20000 in
set_option maxHeartbeats 2000000 in
theorem form37_32 (w : World) : Calls Tryd.prog 37 #[.int .i64 32] w fun e w' => e = .returned (.agg #[.int .u8 104, .int .u32 27, .int .u32 1, .int .u32 0]) ∧ Below w.heap.size w w' := by
  go_enter Tryd.func37, Tryd.ntmps37
  go_wp2
  go_region
  all_goals go_wp2
  all_goals refine bodyPost_ret (v := .agg #[.int .u8 104, .int .u32 27, .int .u32 1, .int .u32 0]) (by simp [results, Tryd.results37, go_sem]) rfl ⟨rfl, ?_⟩
  all_goals (repeat (first | exact Below.refl _ _ | refine Below.drew ?_ | refine Below.alloc ?_ (by simp <;> omega) _ | refine Below.setCell ?_ (by simp) _))
set_option maxRecDepth 20000 in
set_option maxHeartbeats 2000000 in
theorem form37_38 (w : World) : Calls Tryd.prog 37 #[.int .i64 38] w fun e w' => e = .returned (.agg #[.int .u8 82, .int .u32 51, .int .u32 2, .int .u32 0]) ∧ Below w.heap.size w w' := by
  go_enter Tryd.func37, Tryd.ntmps37
  go_wp2
  go_region
  all_goals go_wp2
  all_goals refine bodyPost_ret (v := .agg #[.int .u8 82, .int .u32 51, .int .u32 2, .int .u32 0]) (by simp [results, Tryd.results37, go_sem]) rfl ⟨rfl, ?_⟩
  all_goals (repeat (first | exact Below.refl _ _ | refine Below.drew ?_ | refine Below.alloc ?_ (by simp <;> omega) _ | refine Below.setCell ?_ (by simp) _))
set_option maxRecDepth 20000 in
set_option maxHeartbeats 2000000 in
theorem form37_44 (w : World) : Calls Tryd.prog 37 #[.int .i64 44] w fun e w' => e = .returned (.agg #[.int .u8 82, .int .u32 51, .int .u32 7, .int .u32 0]) ∧ Below w.heap.size w w' := by
  go_enter Tryd.func37, Tryd.ntmps37
  go_wp2
  go_region
  all_goals go_wp2
  all_goals refine bodyPost_ret (v := .agg #[.int .u8 82, .int .u32 51, .int .u32 7, .int .u32 0]) (by simp [results, Tryd.results37, go_sem]) rfl ⟨rfl, ?_⟩
  all_goals (repeat (first | exact Below.refl _ _ | refine Below.drew ?_ | refine Below.alloc ?_ (by simp <;> omega) _ | refine Below.setCell ?_ (by simp) _))
set_option maxRecDepth 20000 in
set_option maxHeartbeats 2000000 in
theorem form37_55 (w : World) : Calls Tryd.prog 37 #[.int .i64 55] w fun e w' => e = .returned (.agg #[.int .u8 82, .int .u32 51, .int .u32 5, .int .u32 1]) ∧ Below w.heap.size w w' := by
  go_enter Tryd.func37, Tryd.ntmps37
  go_wp2
  all_goals refine bodyPost_ret (v := .agg #[.int .u8 82, .int .u32 51, .int .u32 5, .int .u32 1]) (by simp [results, Tryd.results37, go_sem]) rfl ⟨rfl, ?_⟩
  all_goals (repeat (first | exact Below.refl _ _ | refine Below.drew ?_ | refine Below.alloc ?_ (by simp <;> omega) _ | refine Below.setCell ?_ (by simp) _))
set_option maxRecDepth 20000 in
set_option maxHeartbeats 2000000 in
theorem form37_61 (w : World) : Calls Tryd.prog 37 #[.int .i64 61] w fun e w' => e = .returned (.agg #[.int .u8 82, .int .u32 59, .int .u32 6, .int .u32 1]) ∧ Below w.heap.size w w' := by
  go_enter Tryd.func37, Tryd.ntmps37
  go_wp2
  all_goals refine bodyPost_ret (v := .agg #[.int .u8 82, .int .u32 59, .int .u32 6, .int .u32 1]) (by simp [results, Tryd.results37, go_sem]) rfl ⟨rfl, ?_⟩
  all_goals (repeat (first | exact Below.refl _ _ | refine Below.drew ?_ | refine Below.alloc ?_ (by simp <;> omega) _ | refine Below.setCell ?_ (by simp) _))
end Go.Proofs.YtndbkkldfinggaaDoor
