/- The little functions of lir's check. -/
import Derived.Test.YthkkoppnenfnfaaDoorProg
import Derived.Test.YthkkoppnenfnfaaDoorShelf
import Derived.WalkKit
import Derived.WalkSpells
import Derived.WalkLawsBesides
import Derived.LoopTactic
import Derived.Deep.QuietTactic
import Derived.WalkSmall
import Derived.Shelf.Abstract
import Derived.Shelf.RegionOpen
import Derived.Deep.RegionWith
import Derived.RegionTactic
import Derived.Laws.OwnMore
import Derived.Lib.SliceRun
import Derived.BigQuiet
namespace Go.Proofs.YthkkoppnenfnfaaDoor
open Go.RowKit Go.Shelf
theorem bcell {W w1 : World} (hb : Below W.heap.size W w1) : (∀ b o, b < W.heap.size → w1.cell? ⟨b, o, none⟩ = W.cell? ⟨b, o, none⟩) ∧ (∀ b o, b < W.heap.size → w1.frozen? ⟨b, o, none⟩ = W.frozen? ⟨b, o, none⟩) :=
  ⟨fun b o h => hb.cell (p := ⟨b, o, none⟩) h, fun b o h => hb.frozen (p := ⟨b, o, none⟩) h⟩
theorem ret_bool {a b : Bool} (h : a = b) : Ending.returned (.bool a) = .returned (.bool b) := by rw [h]
theorem ret_int {k : IntKind} {a b : Int} (h : a = b) : Ending.returned (.int k a) = .returned (.int k b) := by rw [h]
def dgB (c : Nat) : Bool := decide (48 ≤ c) && decide (c ≤ 57)
def ltB (c : Nat) : Bool := (decide (97 ≤ c) && decide (c ≤ 122)) || (decide (65 ≤ c) && decide (c ≤ 90))
def witB (n a b : Int) : Bool := decide (a ≤ n) && decide (n ≤ b)
def belB (n : Int) (h : Bool) (e : Int) : Bool := if h then decide (0 ≤ n) && decide (n < e) else decide (n = 0)
def endB (op : Int) : Bool := decide (8 ≤ op) && decide (op ≤ 11)
set_option maxHeartbeats 1000000 in
theorem isDigit56 (c : Nat) (w : World) : Calls Tryd.prog 56 #[.int .u8 (c : Int)] w fun e w' => e = .returned (.bool (dgB c)) ∧ w' = w := by
  go_enter Tryd.func56, Tryd.ntmps56
  go_wp2
  all_goals go_ret
  all_goals exact ⟨ret_bool (by rw [Bool.eq_iff_iff]; simp [dgB]; omega), rfl⟩
set_option maxHeartbeats 1000000 in
theorem isLetter57 (c : Nat) (w : World) : Calls Tryd.prog 57 #[.int .u8 (c : Int)] w fun e w' => e = .returned (.bool (ltB c)) ∧ w' = w := by
  go_enter Tryd.func57, Tryd.ntmps57
  go_wp2
  all_goals go_ret
  all_goals exact ⟨ret_bool (by rw [Bool.eq_iff_iff]; simp [ltB]; omega), rfl⟩
set_option maxHeartbeats 1000000 in
theorem isEnd58 (c : Int) (w : World) : Calls Tryd.prog 58 #[.int .i64 c] w fun e w' => e = .returned (.bool (endB c)) ∧ w' = w := by
  go_enter Tryd.func58, Tryd.ntmps58
  go_wp2
  all_goals go_ret
  all_goals exact ⟨ret_bool (by rw [Bool.eq_iff_iff]; simp [endB]; omega), rfl⟩
set_option maxHeartbeats 1000000 in
theorem within47 (n a b : Int) (w : World) : Calls Tryd.prog 47 #[.int .i64 n, .int .i64 a, .int .i64 b] w fun e w' => e = .returned (.bool (witB n a b)) ∧ w' = w := by
  go_enter Tryd.func47, Tryd.ntmps47
  go_wp2
  all_goals go_ret
  all_goals exact ⟨ret_bool (by rw [Bool.eq_iff_iff]; simp [witB]; omega), rfl⟩
set_option maxHeartbeats 1000000 in
theorem below65 (n : Int) (h : Bool) (b : Int) (w : World) : Calls Tryd.prog 65 #[.int .i64 n, .bool h, .int .i64 b] w fun e w' => e = .returned (.bool (belB n h b)) ∧ w' = w := by
  cases h
  all_goals
    go_enter Tryd.func65, Tryd.ntmps65
    go_wp2
    all_goals go_ret
    all_goals exact ⟨ret_bool (by rw [Bool.eq_iff_iff]; simp [belB]; try omega), rfl⟩
def hasB (s : ByteArray) (c : UInt8) : Bool := s.data.toList.contains c
end Go.Proofs.YthkkoppnenfnfaaDoor
