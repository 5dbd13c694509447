/- What every statement of lir asks first is so. -/
import Derived.Test.YthkkoppnenfnfaaDoorD3
import Derived.Laws.IdiomStrings
namespace Go.Proofs.YthkkoppnenfnfaaDoor
open Go.RowKit Go.Shelf
set_option maxRecDepth 20000 in
set_option maxHeartbeats 4000000 in
theorem speaks6 (w : World) (hT : Tf w) : Calls Tryd.prog 6 #[] w fun e w' => e = .returned (.bool true) ∧ Below w.heap.size w w' := by
  have HT : Hid (Tf w) := hT
  clear hT
  go_enter Tryd.func6, Tryd.ntmps6
  go_wp2_with fail
  refine (seven11 w).mono ?_
  rintro e w1 ⟨p, y, x, z, rfl, hp, hb1⟩
  have HB1 : Hid (Below w.heap.size w w1) := hb1
  have HP1 : Hid (Pr w1 p y x z) := hp
  clear hp hb1
  go_wp2_with fail
  refine (run_9 p y x z w1 (HT.out.below HB1.out) HP1.out).mono ?_
  rintro e w2 ⟨g, cap, rfl, hg, hb2, hge⟩
  have HB2 : Hid (Below w.heap.size w w2) := HB1.out.trans (hb2.mono HB1.out.size)
  have HG2 : Hid (Cl w2 g [.int .u8 55, .int .u8 10]) := hg
  have HB3 : Hid (Below w.heap.size w (w2.alloc (.cells #[.int .i64 1, .int .i64 0, .slice (some ⟨g, 0, none⟩) 2 cap, .int .i64 3] 36))) := HB2.out.alloc HB2.out.size _
  have HG3 : Hid (Cl (w2.alloc (.cells #[.int .i64 1, .int .i64 0, .slice (some ⟨g, 0, none⟩) 2 cap, .int .i64 3] 36)) g [.int .u8 55, .int .u8 10]) := hg.alloc _
  have HX3 : Hid (Cl (w2.alloc (.cells #[.int .i64 1, .int .i64 0, .slice (some ⟨g, 0, none⟩) 2 cap, .int .i64 3] 36)) w2.heap.size [.int .i64 1, .int .i64 0, .slice (some ⟨g, 0, none⟩) 2 cap, .int .i64 3]) := Cl.new w2 [.int .i64 1, .int .i64 0, .slice (some ⟨g, 0, none⟩) 2 cap, .int .i64 3] 36
  clear hg hb2 hge
  go_wp2_with fail
  generalize w2.alloc (.cells #[.int .i64 1, .int .i64 0, .slice (some ⟨g, 0, none⟩) 2 cap, .int .i64 3] 36) = V at *
  refine (seven11 V).mono ?_
  rintro e w3 ⟨p', y', x', z', rfl, hp, hb4⟩
  have HB4 : Hid (Below w.heap.size w w3) := HB3.out.trans (hb4.mono HB3.out.size)
  have HP4 : Hid (Pr w3 p' y' x' z') := hp
  have HG4 : Hid (Cl w3 g [.int .u8 55, .int .u8 10]) := HG3.out.below hb4
  have HX4 : Hid (Cl w3 w2.heap.size [.int .i64 1, .int .i64 0, .slice (some ⟨g, 0, none⟩) 2 cap, .int .i64 3]) := HX3.out.below hb4
  clear hp hb4
  go_wp2_with fail
  refine (run_2 p' y' x' z' w3 (HT.out.below HB4.out) HP4.out).mono ?_
  rintro e w4 ⟨g', cap', rfl, hg, hb5, hge⟩
  have HB5 : Hid (Below w.heap.size w w4) := HB4.out.trans (hb5.mono HB4.out.size)
  have hG5 := HG4.out.below hb5
  have hX5 := HX4.out.below hb5
  have x0 := acell hX5.lt (hX5.cell (j := 0) rfl)
  have x1 := acell hX5.lt (hX5.cell (j := 1) rfl)
  have x2 := acell hX5.lt (hX5.cell (j := 2) rfl)
  have x3 := acell hX5.lt (hX5.cell (j := 3) rfl)
  have g0 := acell hG5.lt (hG5.cell (j := 0) rfl)
  have g1 := acell hG5.lt (hG5.cell (j := 1) rfl)
  have hcv : (convert 34 9 (.slice (some ⟨g, 0, none⟩) 2 cap)).run Tryd.prog (w4.alloc (.cells #[.int .i64 2, .int .i64 0, .slice (some ⟨g', 0, none⟩) 2 cap', .int .i64 2] 36)) = .ok (.string ⟨#[55, 10]⟩) (w4.alloc (.cells #[.int .i64 2, .int .i64 0, .slice (some ⟨g', 0, none⟩) 2 cap', .int .i64 2] 36)) := run_convert_bytes_back _ 34 9 5 ⟨g, 0, none⟩ cap [55, 10] Tryd.underlying34 Tryd.underlying5 Tryd.underlying9 (fun j hj => by rcases (by simp at hj; omega : j = 0 ∨ j = 1) with rfl | rfl <;> first | exact g0 _ | exact g1 _)
  clear hg hb5 hge hG5 hX5
  go_wp2
  go_ret
  exact ⟨rfl, HB5.out.alloc HB5.out.size _⟩
end Go.Proofs.YthkkoppnenfnfaaDoor
