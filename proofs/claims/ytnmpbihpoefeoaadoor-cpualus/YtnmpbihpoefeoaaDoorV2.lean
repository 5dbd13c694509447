/- Operations of two numbers: quotients. -/
import Derived.Test.YtnmpbihpoefeoaaDoorV1
namespace Go.Proofs.YtnmpbihpoefeoaaDoor
open Go.RowKit Go.Shelf
theorem w64_zero {b : Int} (b0 : 0 ≤ b) (b1 : b < 18446744073709551616) (h : ¬ b = 0) : ¬ wrap64 b = 0 := by unfold wrap64; omega
def dv (a b : Int) : Int := if b = 0 then 18446744073709551615 else IntKind.u64.wrap (wrap64 ((wrap64 a).tdiv (wrap64 b)))
def rm (a b : Int) : Int := if b = 0 then a else IntKind.u64.wrap ((wrap64 a).tmod (wrap64 b))
def dvu (a b : Int) : Int := if b = 0 then 18446744073709551615 else a / b
def rmu (a b : Int) : Int := if b = 0 then a else a % b
/-- A truth as a number. -/
def tr (v : Bool) : Int := if v then 1 else 0
theorem truth35' (v : Bool) (w : World) : Calls Tryd.prog 35 #[.bool v] w fun e w' => e = .returned (.int .u64 (tr v)) ∧ w' = w := truth35 v w
theorem truth38' (v : Bool) (w : World) : Calls Tryd.prog 38 #[.bool v] w fun e w' => e = .returned (.int .u64 (tr v)) ∧ w' = w := truth38 v w
theorem quot50 (a b : Int) (b0 : 0 ≤ b) (b1 : b < 18446744073709551616) (w : World) : Calls Tryd.prog 50 #[.int .u64 a, .int .u64 b] w fun e w' => e = .returned (.tuple #[.int .u64 (dv a b), .int .u64 (rm a b)]) ∧ ∃ n, w' = w.drewN n := by
  by_cases h : b = 0
  · subst h
    go_enter Tryd.func50, Tryd.ntmps50
    go_wp2
    go_ret2
    exact ⟨rfl, 0, rfl⟩
  · have hz := w64_zero b0 b1 h
    unfold dv rm
    rw [if_neg h, if_neg h]
    go_enter Tryd.func50, Tryd.ntmps50
    go_wp2
    go_region
    all_goals go_wp2
    all_goals go_ret2
    all_goals exact ⟨rfl, 1, rfl⟩
theorem quot51 (a b : Int) (a0 : 0 ≤ a) (a1 : a < 18446744073709551616) (b0 : 0 ≤ b) (_b1 : b < 18446744073709551616) (w : World) : Calls Tryd.prog 51 #[.int .u64 a, .int .u64 b] w fun e w' => e = .returned (.tuple #[.int .u64 (dvu a b), .int .u64 (rmu a b)]) ∧ ∃ n, w' = w.drewN n := by
  by_cases h : b = 0
  · subst h
    go_enter Tryd.func51, Tryd.ntmps51
    go_wp2
    go_ret2
    exact ⟨rfl, 0, rfl⟩
  · unfold dvu rmu
    rw [if_neg h, if_neg h]
    go_enter Tryd.func51, Tryd.ntmps51
    go_wp2
    go_region
    all_goals go_wp2
    all_goals go_ret2
    all_goals exact ⟨rfl, 1, rfl⟩
theorem dv_neg (a b : Int) (h : ¬ b = 0) (h1 : wrap64 b = -1) : IntKind.u64.wrap (-a) = dv a b := by
  unfold dv
  rw [if_neg h, h1, wrapU, wrapU, show (-1 : Int) = -(1 : Int) from rfl, Int.tdiv_neg, Int.tdiv_one]
  unfold wrap64
  omega
theorem rm_neg (a b : Int) (h : ¬ b = 0) (h1 : wrap64 b = -1) : 0 = rm a b := by
  unfold rm
  rw [if_neg h, h1, wrapU, show (-1 : Int) = -(1 : Int) from rfl, Int.tmod_neg, Int.tmod_one]
  rfl
/-- What divide makes. -/
def D (op a b : Int) : Int := if op = 54 then dv a b else if op = 55 then dvu a b else if op = 56 then rm a b else rmu a b
set_option maxHeartbeats 1000000 in
theorem div40_54 (a b : Int) (b0 : 0 ≤ b) (b1 : b < 18446744073709551616) (w : World) : Calls Tryd.prog 40 #[.int .i64 54, .int .u64 a, .int .u64 b] w fun e w' => e = .returned (.int .u64 (dv a b)) ∧ w' = w := by
  by_cases h : b = 0
  · subst h
    go_enter Tryd.func40, Tryd.ntmps40
    go_wp2
    go_ret
    exact ⟨rfl, rfl⟩
  · have hz := w64_zero b0 b1 h
    by_cases h1 : wrap64 b = -1
    · go_enter Tryd.func40, Tryd.ntmps40
      go_wp2
      go_ret
      exact ⟨ret_int (dv_neg a b h h1), rfl⟩
    · go_enter Tryd.func40, Tryd.ntmps40
      go_wp2
      go_ret
      exact ⟨ret_int (by unfold dv; rw [if_neg h]), rfl⟩
set_option maxHeartbeats 1000000 in
theorem div40_56 (a b : Int) (b0 : 0 ≤ b) (b1 : b < 18446744073709551616) (w : World) : Calls Tryd.prog 40 #[.int .i64 56, .int .u64 a, .int .u64 b] w fun e w' => e = .returned (.int .u64 (rm a b)) ∧ w' = w := by
  by_cases h : b = 0
  · subst h
    go_enter Tryd.func40, Tryd.ntmps40
    go_wp2
    go_ret
    exact ⟨rfl, rfl⟩
  · have hz := w64_zero b0 b1 h
    by_cases h1 : wrap64 b = -1
    · go_enter Tryd.func40, Tryd.ntmps40
      go_wp2
      go_ret
      exact ⟨ret_int (rm_neg a b h h1), rfl⟩
    · go_enter Tryd.func40, Tryd.ntmps40
      go_wp2
      go_ret
      exact ⟨ret_int (by unfold rm; rw [if_neg h]), rfl⟩
set_option maxHeartbeats 1000000 in
theorem div40_55 (a b : Int) (a0 : 0 ≤ a) (a1 : a < 18446744073709551616) (b0 : 0 ≤ b) (_b1 : b < 18446744073709551616) (w : World) : Calls Tryd.prog 40 #[.int .i64 55, .int .u64 a, .int .u64 b] w fun e w' => e = .returned (.int .u64 (dvu a b)) ∧ w' = w := by
  by_cases h : b = 0
  · subst h
    go_enter Tryd.func40, Tryd.ntmps40
    go_wp2
    go_ret
    exact ⟨rfl, rfl⟩
  · go_enter Tryd.func40, Tryd.ntmps40
    go_wp2
    go_ret
    exact ⟨ret_int (by unfold dvu; rw [if_neg h]), rfl⟩
set_option maxHeartbeats 1000000 in
theorem div40_57 (a b : Int) (a0 : 0 ≤ a) (a1 : a < 18446744073709551616) (b0 : 0 ≤ b) (_b1 : b < 18446744073709551616) (w : World) : Calls Tryd.prog 40 #[.int .i64 57, .int .u64 a, .int .u64 b] w fun e w' => e = .returned (.int .u64 (rmu a b)) ∧ w' = w := by
  by_cases h : b = 0
  · subst h
    go_enter Tryd.func40, Tryd.ntmps40
    go_wp2
    go_ret
    exact ⟨rfl, rfl⟩
  · go_enter Tryd.func40, Tryd.ntmps40
    go_wp2
    go_ret
    exact ⟨ret_int (by unfold rmu; rw [if_neg h]), rfl⟩
theorem div40 (op a b : Int) (h1 : 54 ≤ op) (h2 : op ≤ 57) (a0 : 0 ≤ a) (a1 : a < 18446744073709551616) (b0 : 0 ≤ b) (b1 : b < 18446744073709551616) (w : World) : Calls Tryd.prog 40 #[.int .i64 op, .int .u64 a, .int .u64 b] w fun e w' => e = .returned (.int .u64 (D op a b)) ∧ w' = w := by
  rcases (by omega : op = 54 ∨ op = 55 ∨ op = 56 ∨ op = 57) with rfl | rfl | rfl | rfl
  · exact div40_54 a b b0 b1 w
  · exact div40_55 a b a0 a1 b0 b1 w
  · exact div40_56 a b b0 b1 w
  · exact div40_57 a b a0 a1 b0 b1 w
end Go.Proofs.YtnmpbihpoefeoaaDoor
