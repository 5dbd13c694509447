/- The three instructions of the little program are right. -/
import Derived.Test.YthkkoppnenfnfaaDoorA4
import Derived.Test.YthkkoppnenfnfaaDoorG1
namespace Go.Proofs.YthkkoppnenfnfaaDoor
open Go.RowKit Go.Shelf
/-- What is asked of the table of forms here. -/
structure Tf (w : World) : Prop where
  c1 : w.cell? ⟨0, 3, none⟩ = some (.string ⟨#[68, 78]⟩)
  c7 : w.cell? ⟨0, 15, none⟩ = some (.string ⟨#[68, 83, 82]⟩)
  c10 : w.cell? ⟨0, 21, none⟩ = some (.string ⟨#[65]⟩)
  pos : 0 < w.heap.size
theorem Tf.below {w w1 : World} (h : Tf w) (hb : Below w.heap.size w w1) : Tf w1 :=
  ⟨by rw [hb.cell (p := ⟨0, 3, none⟩) h.pos]; exact h.c1, by rw [hb.cell (p := ⟨0, 15, none⟩) h.pos]; exact h.c7, by rw [hb.cell (p := ⟨0, 21, none⟩) h.pos]; exact h.c10, Nat.lt_of_lt_of_le h.pos hb.size⟩
theorem bel_t (n e : Int) (h : 0 ≤ n ∧ n < e) (w : World) : Calls Tryd.prog 65 #[.int .i64 n, .bool true, .int .i64 e] w fun r w' => r = .returned (.bool true) ∧ w' = w := by
  have t := below65 n true e w
  rw [show belB n true e = true by simp [belB]; omega] at t
  exact t
theorem bel_f (e : Int) (w : World) : Calls Tryd.prog 65 #[.int .i64 0, .bool false, .int .i64 e] w fun r w' => r = .returned (.bool true) ∧ w' = w := below65 0 false e w
end Go.Proofs.YthkkoppnenfnfaaDoor
