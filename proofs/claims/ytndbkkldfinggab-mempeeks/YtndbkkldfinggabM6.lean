/- Small functions of a memory, and what the first question of every statement (speaks) wants of them. -/
import Derived.Test.YtndbkkldfinggabProg
import Derived.WalkKit
import Derived.WalkSpells
import Derived.WalkLawsBesides
import Derived.LoopTactic
import Derived.Deep.QuietTactic
import Derived.WalkSmall
import Derived.RangeFuncNested
import Derived.RangeFuncBound
import Derived.RangeFuncCalls
import Derived.RangeFuncLeaves
import Derived.RangeFuncFrom
import Derived.Shelf.Abstract
import Derived.Shelf.RegionOpen
import Derived.OwnWalkIn
import Derived.TacticsInMore
import Derived.LoopNIn
import Derived.LoopIn
import Derived.Deep.RegionWith
namespace Go.Proofs.Ytndbkkldfinggab
open Go.RowKit Go.Shelf
theorem dec_or {p q : Prop} [Decidable p] [Decidable q] (h : ¬ p) : decide q = (decide p || decide q) := by simp [h]
theorem ret_bool {a b : Bool} (h : a = b) : Ending.returned (.bool a) = .returned (.bool b) := by rw [h]
set_option maxHeartbeats 1000000 in
theorem beyond12 (at_ n : Int) (a0 : 0 ≤ at_) (a1 : at_ < 18446744073709551616) (_n0 : 0 ≤ n) (_n1 : n < 18446744073709551616) (w : World) : Calls Try.prog 44 #[.int .u64 at_, .int .u64 n] w fun e w' => e = .returned (.bool (decide (281474976710656 ≤ at_ ∨ 281474976710656 - at_ < n))) ∧ w' = w := by
  by_cases h : 281474976710656 ≤ at_
  · go_enter Try.func44, Try.ntmps44
    go_wp2
    all_goals go_ret
    all_goals exact ⟨ret_bool (by simp [h]), rfl⟩
  · go_enter Try.func44, Try.ntmps44
    go_wp2
    all_goals go_ret
    all_goals exact ⟨ret_bool (dec_or (by omega)), rfl⟩
set_option maxHeartbeats 1000000 in
theorem perm13_6 (w : World) : Calls Try.prog 28 #[.int .i64 6] w fun e w' => e = .returned (.bool true) ∧ w' = w := by
  go_enter Try.func28, Try.ntmps28
  go_wp2
  go_ret
  exact ⟨rfl, rfl⟩
theorem ret_int {k : IntKind} {a b : Int} (h : a = b) : Ending.returned (.int k a) = .returned (.int k b) := by rw [h]
set_option maxHeartbeats 1000000 in
theorem base36 (p : Int) (a0 : 0 ≤ p) (a1 : p < 18446744073709551616) (w : World) : Calls Try.prog 54 #[.int .u64 p] w fun e w' => e = .returned (.int .u64 (p - p % 4096)) ∧ w' = w := by
  have q : p % 4096 ≤ p := by omega
  have q0 : 0 ≤ p % 4096 := by omega
  go_enter Try.func54, Try.ntmps54
  go_wp2
  go_ret
  exact ⟨rfl, rfl⟩
set_option maxHeartbeats 1000000 in
theorem new21 (w : World) : Calls Try.prog 27 #[] w fun e w' => e = .returned (.pointer (some ⟨w.heap.size + 1, 0, none⟩)) ∧ w' = (w.alloc (.map #[] 0)).alloc (.cells #[.map (some w.heap.size)] 67) := by
  have hmm := @run_makeMap Try.prog
  go_enter Try.func27, Try.ntmps27
  go_wp2
  go_ret
  exact ⟨rfl, rfl⟩
theorem und42 : Try.prog.underlying 65 = some (.map (Try.prog.mapKeyOf 65) (Try.prog.mapElemOf 65)) := by kernel_rfl
set_option maxRecDepth 20000 in
set_option maxHeartbeats 1000000 in
theorem count24_new (b r : Nat) (w : World) (hc : w.cell? ⟨b, 0, none⟩ = some (.map (some r))) (hr : w.heap[r]? = some (.map #[] 0)) : Calls Try.prog 39 #[.pointer (some ⟨b, 0, none⟩)] w fun e w' => e = .returned (.int .i64 0) ∧ w' = w := by
  have hlen := run_len_map (P := Try.prog) (w := w) 65 3 r #[] 0 und42 hr
  go_enter Try.func39, Try.ntmps39
  go_wp2
  go_ret
  exact ⟨rfl, rfl⟩
theorem heap_at (w : World) (o : Obj) : (w.alloc o).heap[w.heap.size]? = some o := World.alloc_heap_new w o
theorem heap_on {w : World} {r : Nat} {x : Obj} (h : w.heap[r]? = some x) (o : Obj) : (w.alloc o).heap[r]? = some x := (Below.heap_alloc w o r (Array.getElem?_eq_some_iff.1 h).1).trans h
end Go.Proofs.Ytndbkkldfinggab
