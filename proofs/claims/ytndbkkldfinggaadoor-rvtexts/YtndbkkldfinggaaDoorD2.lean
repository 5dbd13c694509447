/- Walks of the program's candidates: what it answers. -/
import Derived.Test.YtndbkkldfinggaaDoorD1
namespace Go.Proofs.YtndbkkldfinggaaDoor
open Go.RowKit
theorem ret_two {a b c d : Int} (h : a = c) (k : b = d) : Ending.returned (.tuple #[.int .i64 a, .int .i64 b]) = .returned (.tuple #[.int .i64 c, .int .i64 d]) := by rw [h, k]
set_option maxHeartbeats 2000000 in
theorem candidates30 (n : Int) (h0 : 0 ≤ n) (h1 : n < 4294967296) (w : World) :
    Calls Tryd.prog 30 #[.int .u32 n] w fun e w' => e = .returned (.tuple #[.int .i64 (cF n), .int .i64 (cL n)]) ∧ w' = w := by
  have e1 := pv_25_7_0 n
  have e2 := pv_12_2_0 n
  have e3 := pv_0_7_0 n
  go_enter Tryd.func30, Tryd.ntmps30
  go_wp2_with ((go_at_call 42; refine (part42 n _ _ _ (by unfold Pt; decide) h0 h1 _).mono ?_; rintro e w' ⟨rfl, rfl⟩))
  all_goals go_ret2
  all_goals refine ⟨ret_two ?_ ?_, rfl⟩
  all_goals (clear e1 e2 e3 h0 h1; simp_all [cF, cL])
end Go.Proofs.YtndbkkldfinggaaDoor
