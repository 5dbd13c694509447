/- Walks of the program's own small functions: what each answers. -/
import Derived.Test.YtndbkkldfinggaaDoorProg
import Derived.Test.YtndbkkldfinggaaDoorArith
import Derived.WalkKit
import Derived.WalkSpells
import Derived.WalkLawsBesides
namespace Go.Proofs.YtndbkkldfinggaaDoor
open Go.RowKit

theorem bcell {W w1 : World} (hb : Below W.heap.size W w1) : (∀ b o, b < W.heap.size → w1.cell? ⟨b, o, none⟩ = W.cell? ⟨b, o, none⟩) ∧ (∀ b o, b < W.heap.size → w1.frozen? ⟨b, o, none⟩ = W.frozen? ⟨b, o, none⟩) :=
  ⟨fun b o h => hb.cell (p := ⟨b, o, none⟩) h, fun b o h => hb.frozen (p := ⟨b, o, none⟩) h⟩

theorem ret_bool {a b : Bool} (h : a = b) : Ending.returned (.bool a) = .returned (.bool b) := by rw [h]
theorem ret_int {k : IntKind} {a b : Int} (h : a = b) : Ending.returned (.int k a) = .returned (.int k b) := by rw [h]

set_option maxHeartbeats 400000 in
theorem registerRight45 (r : Int) (b : Bool) (w : World) :
    Calls Tryd.prog 45 #[.int .i64 r, .bool b] w fun e w' => e = .returned (.bool (regB b r)) ∧ w' = w := by
  cases b
  · go_enter Tryd.func45, Tryd.ntmps45
    go_wp2
    all_goals go_ret
    all_goals exact ⟨ret_bool (by simp [regB]), rfl⟩
  · go_enter Tryd.func45, Tryd.ntmps45
    go_wp2
    all_goals go_ret
    all_goals exact ⟨ret_bool (by simp [regB] <;> omega), rfl⟩

set_option maxHeartbeats 4000000 in
theorem formOf26 (op : Int) (w : World) :
    Calls Tryd.prog 26 #[.int .i64 op] w fun e w' => e = .returned (.int .u8 (nth plL op)) ∧ w' = w := by
  rcases Int.lt_or_le op 1 with h1 | h1
  · rw [nth_lo _ h1]
    go_enter Tryd.func26, Tryd.ntmps26
    go_wp2
    all_goals go_ret
    all_goals exact ⟨rfl, rfl⟩
  · rcases Int.lt_or_le 65 op with h2 | h2
    · rw [nth_hi (l := plL) rfl h2]
      go_enter Tryd.func26, Tryd.ntmps26
      go_wp2
      all_goals go_ret
      all_goals exact ⟨rfl, rfl⟩
    · rcases ops_all h1 h2 with rfl | rfl | rfl | rfl | rfl | rfl | rfl | rfl | rfl | rfl | rfl | rfl | rfl | rfl | rfl | rfl | rfl | rfl | rfl | rfl | rfl | rfl | rfl | rfl | rfl | rfl | rfl | rfl | rfl | rfl | rfl | rfl | rfl | rfl | rfl | rfl | rfl | rfl | rfl | rfl | rfl | rfl | rfl | rfl | rfl | rfl | rfl | rfl | rfl | rfl | rfl | rfl | rfl | rfl | rfl | rfl | rfl | rfl | rfl | rfl | rfl | rfl | rfl | rfl | rfl
      all_goals
        go_enter Tryd.func26, Tryd.ntmps26
        go_wp2
        go_ret
        exact ⟨rfl, rfl⟩

set_option maxHeartbeats 4000000 in
theorem registers44 (l : Int) (hl : IsL l) (w : World) :
    Calls Tryd.prog 44 #[.int .u8 l] w fun e w' => e = .returned (.tuple #[.bool (nRd l), .bool (nR1 l), .bool (nR2 l)]) ∧ w' = w := by
  rcases hl with rfl | rfl | rfl | rfl | rfl | rfl | rfl | rfl | rfl | rfl
  all_goals
    go_enter Tryd.func44, Tryd.ntmps44
    go_wp2
    go_ret3
    exact ⟨rfl, rfl⟩

end Go.Proofs.YtndbkkldfinggaaDoor
