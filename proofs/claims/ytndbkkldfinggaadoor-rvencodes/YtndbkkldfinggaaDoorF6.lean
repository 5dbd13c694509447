/- What the document's table (FormOf) answers at some operations, walked. -/
import Derived.Test.YtndbkkldfinggaaDoorProg
import Derived.WalkKit
import Derived.WalkSpells
import Derived.WalkLawsBesides
import Derived.RegionTactic
namespace Go.Proofs.YtndbkkldfinggaaDoor
open Go.RowKit
set_option maxRecDepth 20000 in
set_option maxHeartbeats 2000000 in
theorem form37_lo (op : Int) (h : op < 1) (w : World) : Calls Tryd.prog 37 #[.int .i64 op] w fun e w' => e = .returned (.agg #[.int .u8 0, .int .u32 0, .int .u32 0, .int .u32 0]) ∧ Below w.heap.size w w' := by
  go_enter Tryd.func37, Tryd.ntmps37
  go_wp2
  all_goals refine bodyPost_ret (v := .agg #[.int .u8 0, .int .u32 0, .int .u32 0, .int .u32 0]) (by simp [results, Tryd.results37, go_sem]) rfl ⟨rfl, ?_⟩
  all_goals (repeat (first | exact Below.refl _ _ | refine Below.drew ?_ | refine Below.alloc ?_ (by simp <;> omega) _ | refine Below.setCell ?_ (by simp) _))
set_option maxRecDepth 20000 in
set_option maxHeartbeats 2000000 in
theorem form37_hi (op : Int) (h : 65 < op) (w : World) : Calls Tryd.prog 37 #[.int .i64 op] w fun e w' => e = .returned (.agg #[.int .u8 0, .int .u32 0, .int .u32 0, .int .u32 0]) ∧ Below w.heap.size w w' := by
  go_enter Tryd.func37, Tryd.ntmps37
  go_wp2
  all_goals refine bodyPost_ret (v := .agg #[.int .u8 0, .int .u32 0, .int .u32 0, .int .u32 0]) (by simp [results, Tryd.results37, go_sem]) rfl ⟨rfl, ?_⟩
  all_goals (repeat (first | exact Below.refl _ _ | refine Below.drew ?_ | refine Below.alloc ?_ (by simp <;> omega) _ | refine Below.setCell ?_ (by simp) _))
end Go.Proofs.YtndbkkldfinggaaDoor
