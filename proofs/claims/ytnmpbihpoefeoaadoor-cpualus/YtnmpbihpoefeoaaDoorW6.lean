/- Operations of two numbers: the rest is product's. -/
import Derived.Test.YtnmpbihpoefeoaaDoorV3
namespace Go.Proofs.YtnmpbihpoefeoaaDoor
open Go.RowKit Go.Shelf
set_option maxRecDepth 20000 in
set_option maxHeartbeats 2000000 in
theorem sum20_p (op a b v : Int) (n : Bool) (h1 : 50 ≤ op) (w : World) (hp : Calls Tryd.prog 36 #[.int .i64 op, .int .u64 a, .int .u64 b] w fun e w' => e = .returned (.tuple #[.int .u64 v, .bool n]) ∧ ∃ m, w' = w.drewN m) : Calls Tryd.prog 20 #[.int .i64 op, .int .u64 a, .int .u64 b] w fun e w' => e = .returned (.tuple #[.int .u64 v, .bool n]) ∧ ∃ m, w' = w.drewN m := by
  have n31 : (op == 31) = false := by simp; omega
  have n45 : (op == 45) = false := by simp; omega
  have n22 : (op == 22) = false := by simp; omega
  have n35 : (op == 35) = false := by simp; omega
  have n46 : (op == 46) = false := by simp; omega
  have n36 : (op == 36) = false := by simp; omega
  have n32 : (op == 32) = false := by simp; omega
  have n47 : (op == 47) = false := by simp; omega
  have n28 : (op == 28) = false := by simp; omega
  have n37 : (op == 37) = false := by simp; omega
  have n33 : (op == 33) = false := by simp; omega
  have n48 : (op == 48) = false := by simp; omega
  have n29 : (op == 29) = false := by simp; omega
  have n41 : (op == 41) = false := by simp; omega
  have n34 : (op == 34) = false := by simp; omega
  have n49 : (op == 49) = false := by simp; omega
  have n30 : (op == 30) = false := by simp; omega
  have n42 : (op == 42) = false := by simp; omega
  have n23 : (op == 23) = false := by simp; omega
  have n38 : (op == 38) = false := by simp; omega
  have n24 : (op == 24) = false := by simp; omega
  have n39 : (op == 39) = false := by simp; omega
  have n25 : (op == 25) = false := by simp; omega
  have n40 : (op == 40) = false := by simp; omega
  have n26 : (op == 26) = false := by simp; omega
  have n43 : (op == 43) = false := by simp; omega
  have n27 : (op == 27) = false := by simp; omega
  have n44 : (op == 44) = false := by simp; omega
  have HP : Hid (Calls Tryd.prog 36 #[.int .i64 op, .int .u64 a, .int .u64 b] w fun e w' => e = .returned (.tuple #[.int .u64 v, .bool n]) ∧ ∃ m, w' = w.drewN m) := hp
  clear hp
  go_enter Tryd.func20, Tryd.ntmps20
  go_wp2_with ((go_at_call 36; refine HP.out.mono ?_; rintro e w' ⟨rfl, m, rfl⟩))
  go_ret2
  exact ⟨rfl, m, rfl⟩
end Go.Proofs.YtnmpbihpoefeoaaDoor
