/- Whether a branch is taken: the program's word and the document's. -/
import Derived.Test.YtnmpbihpoefeoaaDoorMA
namespace Go.Proofs.YtnmpbihpoefeoaaDoor
open Go.RowKit Go.Shelf
/-- Is a branch taken? -/
def Tk (op a b : Int) : Bool := if op = 5 then a == b else if op = 6 then a != b else if op = 7 then decide (wrap64 a < wrap64 b) else if op = 8 then decide (wrap64 b ≤ wrap64 a) else if op = 9 then decide (a < b) else if op = 10 then decide (b ≤ a) else false
def Te (op : Int) : Int := if 5 ≤ op ∧ op ≤ 10 then 0 else 1
theorem ret_be {k : IntKind} {a c : Int} {b d : Bool} (h : b = d) (g : a = c) : Ending.returned (.tuple #[.bool b, .int k a]) = .returned (.tuple #[.bool d, .int k c]) := by rw [h, g]
set_option maxRecDepth 20000 in
set_option maxHeartbeats 2000000 in
theorem taken9_5 (a b : Int) (w : World) : Calls Tryd.prog 9 #[.int .i64 5, .int .u64 a, .int .u64 b] w fun e w' => e = .returned (.tuple #[.bool (Tk 5 a b), .int .i64 (Te 5)]) ∧ ∃ m, w' = w.drewN m := by
  go_enter Tryd.func9, Tryd.ntmps9
  go_wp2
  go_ret2
  exact ⟨ret_be rfl rfl, 0, rfl⟩
set_option maxRecDepth 20000 in
set_option maxHeartbeats 2000000 in
theorem taken9_6 (a b : Int) (w : World) : Calls Tryd.prog 9 #[.int .i64 6, .int .u64 a, .int .u64 b] w fun e w' => e = .returned (.tuple #[.bool (Tk 6 a b), .int .i64 (Te 6)]) ∧ ∃ m, w' = w.drewN m := by
  go_enter Tryd.func9, Tryd.ntmps9
  go_wp2
  go_ret2
  exact ⟨ret_be rfl rfl, 0, rfl⟩
set_option maxRecDepth 20000 in
set_option maxHeartbeats 2000000 in
theorem taken9_7 (a b : Int) (w : World) : Calls Tryd.prog 9 #[.int .i64 7, .int .u64 a, .int .u64 b] w fun e w' => e = .returned (.tuple #[.bool (Tk 7 a b), .int .i64 (Te 7)]) ∧ ∃ m, w' = w.drewN m := by
  go_enter Tryd.func9, Tryd.ntmps9
  go_wp2
  go_ret2
  exact ⟨ret_be rfl rfl, 0, rfl⟩
set_option maxRecDepth 20000 in
set_option maxHeartbeats 2000000 in
theorem taken9_8 (a b : Int) (w : World) : Calls Tryd.prog 9 #[.int .i64 8, .int .u64 a, .int .u64 b] w fun e w' => e = .returned (.tuple #[.bool (Tk 8 a b), .int .i64 (Te 8)]) ∧ ∃ m, w' = w.drewN m := by
  go_enter Tryd.func9, Tryd.ntmps9
  go_wp2
  go_ret2
  exact ⟨ret_be rfl rfl, 0, rfl⟩
set_option maxRecDepth 20000 in
set_option maxHeartbeats 2000000 in
theorem taken9_9 (a b : Int) (w : World) : Calls Tryd.prog 9 #[.int .i64 9, .int .u64 a, .int .u64 b] w fun e w' => e = .returned (.tuple #[.bool (Tk 9 a b), .int .i64 (Te 9)]) ∧ ∃ m, w' = w.drewN m := by
  go_enter Tryd.func9, Tryd.ntmps9
  go_wp2
  go_ret2
  exact ⟨ret_be rfl rfl, 0, rfl⟩
set_option maxRecDepth 20000 in
set_option maxHeartbeats 2000000 in
theorem taken9_10 (a b : Int) (w : World) : Calls Tryd.prog 9 #[.int .i64 10, .int .u64 a, .int .u64 b] w fun e w' => e = .returned (.tuple #[.bool (Tk 10 a b), .int .i64 (Te 10)]) ∧ ∃ m, w' = w.drewN m := by
  go_enter Tryd.func9, Tryd.ntmps9
  go_wp2
  go_ret2
  exact ⟨ret_be rfl rfl, 0, rfl⟩
set_option maxRecDepth 20000 in
set_option maxHeartbeats 2000000 in
theorem taken9_o (op a b : Int) (h : ¬ (5 ≤ op ∧ op ≤ 10)) (w : World) : Calls Tryd.prog 9 #[.int .i64 op, .int .u64 a, .int .u64 b] w fun e w' => e = .returned (.tuple #[.bool (Tk op a b), .int .i64 (Te op)]) ∧ ∃ m, w' = w.drewN m := by
  have n5 : (op == 5) = false := by simp; omega
  have n6 : (op == 6) = false := by simp; omega
  have n7 : (op == 7) = false := by simp; omega
  have n8 : (op == 8) = false := by simp; omega
  have n9 : (op == 9) = false := by simp; omega
  have n10 : (op == 10) = false := by simp; omega
  have e1 : Tk op a b = false := by unfold Tk; repeat rw [if_neg (by omega)]
  have e2 : Te op = 1 := by unfold Te; rw [if_neg h]
  rw [e1, e2]
  go_enter Tryd.func9, Tryd.ntmps9
  go_wp2
  go_ret2
  exact ⟨rfl, 0, rfl⟩
theorem taken9 (op a b : Int) (w : World) : Calls Tryd.prog 9 #[.int .i64 op, .int .u64 a, .int .u64 b] w fun e w' => e = .returned (.tuple #[.bool (Tk op a b), .int .i64 (Te op)]) ∧ ∃ m, w' = w.drewN m := by
  by_cases h : 5 ≤ op ∧ op ≤ 10
  · rcases (by omega : op = 5 ∨ op = 6 ∨ op = 7 ∨ op = 8 ∨ op = 9 ∨ op = 10) with rfl | rfl | rfl | rfl | rfl | rfl
    · exact taken9_5 a b w
    · exact taken9_6 a b w
    · exact taken9_7 a b w
    · exact taken9_8 a b w
    · exact taken9_9 a b w
    · exact taken9_10 a b w
  · exact taken9_o op a b h w
set_option maxRecDepth 20000 in
set_option maxHeartbeats 2000000 in
theorem taken10_5 (a b : Int) (w : World) : Calls Tryd.prog 10 #[.int .i64 5, .int .u64 a, .int .u64 b] w fun e w' => e = .returned (.tuple #[.bool (Tk 5 a b), .int .i64 (Te 5)]) ∧ ∃ m, w' = w.drewN m := by
  go_enter Tryd.func10, Tryd.ntmps10
  go_wp2
  go_ret2
  exact ⟨ret_be rfl rfl, 0, rfl⟩
set_option maxRecDepth 20000 in
set_option maxHeartbeats 2000000 in
theorem taken10_6 (a b : Int) (w : World) : Calls Tryd.prog 10 #[.int .i64 6, .int .u64 a, .int .u64 b] w fun e w' => e = .returned (.tuple #[.bool (Tk 6 a b), .int .i64 (Te 6)]) ∧ ∃ m, w' = w.drewN m := by
  go_enter Tryd.func10, Tryd.ntmps10
  go_wp2
  go_ret2
  exact ⟨ret_be rfl rfl, 0, rfl⟩
set_option maxRecDepth 20000 in
set_option maxHeartbeats 2000000 in
theorem taken10_7 (a b : Int) (w : World) : Calls Tryd.prog 10 #[.int .i64 7, .int .u64 a, .int .u64 b] w fun e w' => e = .returned (.tuple #[.bool (Tk 7 a b), .int .i64 (Te 7)]) ∧ ∃ m, w' = w.drewN m := by
  go_enter Tryd.func10, Tryd.ntmps10
  go_wp2
  go_ret2
  exact ⟨ret_be rfl rfl, 0, rfl⟩
set_option maxRecDepth 20000 in
set_option maxHeartbeats 2000000 in
theorem taken10_8 (a b : Int) (w : World) : Calls Tryd.prog 10 #[.int .i64 8, .int .u64 a, .int .u64 b] w fun e w' => e = .returned (.tuple #[.bool (Tk 8 a b), .int .i64 (Te 8)]) ∧ ∃ m, w' = w.drewN m := by
  go_enter Tryd.func10, Tryd.ntmps10
  go_wp2
  go_ret2
  exact ⟨ret_be rfl rfl, 0, rfl⟩
set_option maxRecDepth 20000 in
set_option maxHeartbeats 2000000 in
theorem taken10_9 (a b : Int) (w : World) : Calls Tryd.prog 10 #[.int .i64 9, .int .u64 a, .int .u64 b] w fun e w' => e = .returned (.tuple #[.bool (Tk 9 a b), .int .i64 (Te 9)]) ∧ ∃ m, w' = w.drewN m := by
  go_enter Tryd.func10, Tryd.ntmps10
  go_wp2
  go_ret2
  exact ⟨ret_be rfl rfl, 0, rfl⟩
set_option maxRecDepth 20000 in
set_option maxHeartbeats 2000000 in
theorem taken10_10 (a b : Int) (w : World) : Calls Tryd.prog 10 #[.int .i64 10, .int .u64 a, .int .u64 b] w fun e w' => e = .returned (.tuple #[.bool (Tk 10 a b), .int .i64 (Te 10)]) ∧ ∃ m, w' = w.drewN m := by
  go_enter Tryd.func10, Tryd.ntmps10
  go_wp2
  go_ret2
  exact ⟨ret_be rfl rfl, 0, rfl⟩
set_option maxRecDepth 20000 in
set_option maxHeartbeats 2000000 in
theorem taken10_o (op a b : Int) (h : ¬ (5 ≤ op ∧ op ≤ 10)) (w : World) : Calls Tryd.prog 10 #[.int .i64 op, .int .u64 a, .int .u64 b] w fun e w' => e = .returned (.tuple #[.bool (Tk op a b), .int .i64 (Te op)]) ∧ ∃ m, w' = w.drewN m := by
  have n5 : (op == 5) = false := by simp; omega
  have n6 : (op == 6) = false := by simp; omega
  have n7 : (op == 7) = false := by simp; omega
  have n8 : (op == 8) = false := by simp; omega
  have n9 : (op == 9) = false := by simp; omega
  have n10 : (op == 10) = false := by simp; omega
  have e1 : Tk op a b = false := by unfold Tk; repeat rw [if_neg (by omega)]
  have e2 : Te op = 1 := by unfold Te; rw [if_neg h]
  rw [e1, e2]
  go_enter Tryd.func10, Tryd.ntmps10
  go_wp2
  go_ret2
  exact ⟨rfl, 0, rfl⟩
theorem taken10 (op a b : Int) (w : World) : Calls Tryd.prog 10 #[.int .i64 op, .int .u64 a, .int .u64 b] w fun e w' => e = .returned (.tuple #[.bool (Tk op a b), .int .i64 (Te op)]) ∧ ∃ m, w' = w.drewN m := by
  by_cases h : 5 ≤ op ∧ op ≤ 10
  · rcases (by omega : op = 5 ∨ op = 6 ∨ op = 7 ∨ op = 8 ∨ op = 9 ∨ op = 10) with rfl | rfl | rfl | rfl | rfl | rfl
    · exact taken10_5 a b w
    · exact taken10_6 a b w
    · exact taken10_7 a b w
    · exact taken10_8 a b w
    · exact taken10_9 a b w
    · exact taken10_10 a b w
  · exact taken10_o op a b h w
end Go.Proofs.YtnmpbihpoefeoaaDoor
