/- What the statements of layer 3 share: the table of fixed words as the row lists it; a world for the witness. -/
import Derived.Test.YtnmpbihpoefeoaaDoorCards
import Derived.Test.YtnmpbihpoefeoaaDoorTie
import Derived.Test.YtnmpbihpoefeoaaDoorDA
import Derived.ProofKit
import Derived.OpenShut
import Derived.Deep.DeepHandedRow
import Derived.Lib.LaidTab
import Derived.Lib.SmallJoins
namespace Go.Proofs.YtnmpbihpoefeoaaDoor
open Go.ChangeShapes Go.WideShapes Go.ChangeAt Go.RowKit Go.Deep Go.Joins
theorem own : ownKnob Tryd.prog.godebug = none := by kernel_rfl
def fixedL : List Int := [0, 55, 23, 111, 103, 99, 4195, 16483, 20579, 24675, 28771, 3, 4099, 8195, 12291, 16387, 20483, 24579, 35, 4131, 8227, 12323, 19, 8211, 12307, 16403, 24595, 28691, 4115, 20499, 1073762323, 27, 4123, 20507, 1073762331, 51, 1073741875, 4147, 8243, 12339, 16435, 20531, 1073762355, 24627, 28723, 59, 1073741883, 4155, 20539, 1073762363, 33554483, 33558579, 33562675, 33566771, 33570867, 33574963, 33579059, 33583155, 33554491, 33570875, 33574971, 33579067, 33583163, 15, 115, 1048691]
/-- A world for the witness: the settled one, the table (block 0) holding what its initialiser lays. -/
noncomputable def laidWorld (os : Os) : World :=
  { World.holding Tryd.prog os ⟨#[], #[], []⟩ with heap := (World.holding Tryd.prog os ⟨#[], #[], []⟩).heap.modify 0 fun
      | .cells _ t frozen => .cells (fixedL.map fun z => Value.int .u32 z).toArray t frozen
      | o => o }
theorem gTab : Tryd.prog.globalNamed "patina/rv.fixed" = some 0 := by kernel_rfl
theorem gTabType : (Tryd.prog.globals[0]?).map (·.type) = some 109 := by kernel_rfl
theorem cells109 : Tryd.prog.cellsOf 109 = 66 := by kernel_rfl
theorem cells63 : Tryd.prog.cellsOf 63 = 1 := by kernel_rfl

theorem tab_cells {W : World} (h : Lib.TabIs Tryd.prog W "patina/rv.fixed" .u32 (0 :: fxL)) : Tab W := by
  have hc : ∀ k : Int, 1 ≤ k → k ≤ 65 → W.cell? ⟨0, k.toNat, none⟩ = some (.int .u32 (nth fxL k)) := by
    intro k h1 h2
    rcases ops_all h1 h2 with rfl | rfl | rfl | rfl | rfl | rfl | rfl | rfl | rfl | rfl | rfl | rfl | rfl | rfl | rfl | rfl | rfl | rfl | rfl | rfl | rfl | rfl | rfl | rfl | rfl | rfl | rfl | rfl | rfl | rfl | rfl | rfl | rfl | rfl | rfl | rfl | rfl | rfl | rfl | rfl | rfl | rfl | rfl | rfl | rfl | rfl | rfl | rfl | rfl | rfl | rfl | rfl | rfl | rfl | rfl | rfl | rfl | rfl | rfl | rfl | rfl | rfl | rfl | rfl | rfl
    · exact h.cell gTab 1 (by decide)
    · exact h.cell gTab 2 (by decide)
    · exact h.cell gTab 3 (by decide)
    · exact h.cell gTab 4 (by decide)
    · exact h.cell gTab 5 (by decide)
    · exact h.cell gTab 6 (by decide)
    · exact h.cell gTab 7 (by decide)
    · exact h.cell gTab 8 (by decide)
    · exact h.cell gTab 9 (by decide)
    · exact h.cell gTab 10 (by decide)
    · exact h.cell gTab 11 (by decide)
    · exact h.cell gTab 12 (by decide)
    · exact h.cell gTab 13 (by decide)
    · exact h.cell gTab 14 (by decide)
    · exact h.cell gTab 15 (by decide)
    · exact h.cell gTab 16 (by decide)
    · exact h.cell gTab 17 (by decide)
    · exact h.cell gTab 18 (by decide)
    · exact h.cell gTab 19 (by decide)
    · exact h.cell gTab 20 (by decide)
    · exact h.cell gTab 21 (by decide)
    · exact h.cell gTab 22 (by decide)
    · exact h.cell gTab 23 (by decide)
    · exact h.cell gTab 24 (by decide)
    · exact h.cell gTab 25 (by decide)
    · exact h.cell gTab 26 (by decide)
    · exact h.cell gTab 27 (by decide)
    · exact h.cell gTab 28 (by decide)
    · exact h.cell gTab 29 (by decide)
    · exact h.cell gTab 30 (by decide)
    · exact h.cell gTab 31 (by decide)
    · exact h.cell gTab 32 (by decide)
    · exact h.cell gTab 33 (by decide)
    · exact h.cell gTab 34 (by decide)
    · exact h.cell gTab 35 (by decide)
    · exact h.cell gTab 36 (by decide)
    · exact h.cell gTab 37 (by decide)
    · exact h.cell gTab 38 (by decide)
    · exact h.cell gTab 39 (by decide)
    · exact h.cell gTab 40 (by decide)
    · exact h.cell gTab 41 (by decide)
    · exact h.cell gTab 42 (by decide)
    · exact h.cell gTab 43 (by decide)
    · exact h.cell gTab 44 (by decide)
    · exact h.cell gTab 45 (by decide)
    · exact h.cell gTab 46 (by decide)
    · exact h.cell gTab 47 (by decide)
    · exact h.cell gTab 48 (by decide)
    · exact h.cell gTab 49 (by decide)
    · exact h.cell gTab 50 (by decide)
    · exact h.cell gTab 51 (by decide)
    · exact h.cell gTab 52 (by decide)
    · exact h.cell gTab 53 (by decide)
    · exact h.cell gTab 54 (by decide)
    · exact h.cell gTab 55 (by decide)
    · exact h.cell gTab 56 (by decide)
    · exact h.cell gTab 57 (by decide)
    · exact h.cell gTab 58 (by decide)
    · exact h.cell gTab 59 (by decide)
    · exact h.cell gTab 60 (by decide)
    · exact h.cell gTab 61 (by decide)
    · exact h.cell gTab 62 (by decide)
    · exact h.cell gTab 63 (by decide)
    · exact h.cell gTab 64 (by decide)
    · exact h.cell gTab 65 (by decide)
  refine ⟨?_, hc⟩
  have h1 := hc 1 (by omega) (by omega)
  rcases Nat.eq_zero_or_pos W.heap.size with e | e
  · have : W.heap[0]? = none := by simp [e]
    simp [World.cell?, this] at h1
  · exact e

end Go.Proofs.YtnmpbihpoefeoaaDoor
