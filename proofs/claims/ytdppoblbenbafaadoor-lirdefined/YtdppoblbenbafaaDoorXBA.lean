/- What every statement of lir asks first. What every statement of lir asks first is so. -/
import Derived.Test.YtdppoblbenbafaaDoorD2
import Derived.Laws.IdiomStrings
namespace Go.Proofs.YtdppoblbenbafaaDoor
section
open Go.RowKit Go.Shelf
set_option maxRecDepth 20000 in
set_option maxHeartbeats 2000000 in
theorem seven11 (w : World) : Calls Tryd.prog 14 #[] w fun e w' => ∃ p y x z, e = .returned (.slice (some ⟨p, 0, none⟩) 1 1) ∧ Pr w' p y x z ∧ Below w.heap.size w w' := by
  go_enter Tryd.func14, Tryd.ntmps14
  go_wp2
  go_ret
  refine ⟨w.heap.size + 1 + 1 + 1, w.heap.size + 1 + 1, w.heap.size + 1, w.heap.size, rfl, ?_, ?_⟩
  · refine ⟨by go_simp, by go_simp, by go_simp, by go_simp, by go_simp, by go_simp, ⟨?_, by go_simp, by simp, by simp; omega⟩, by simp, by simp⟩
    intro j v hj
    have t := ((Cl.new (w.alloc (.cells #[.int .i64 0] 3)) (insL w.heap.size) 49).alloc (.cells #[.slice (some ⟨w.heap.size + 1, 0, none⟩) 3 3] 46)).alloc (.cells #[.string ⟨#[109, 97, 105, 110]⟩, .int .i64 0, .int .i64 1, .int .i64 0, .slice (some ⟨w.heap.size + 1 + 1, 0, none⟩) 1 1] 43)
    rw [show (w.alloc (.cells #[.int .i64 0] 3)).heap.size = w.heap.size + 1 by simp] at t
    exact t.cell hj
  · exact ((((G.refl w).alloc _).alloc _).alloc _ |>.alloc _).below
set_option maxRecDepth 20000 in
set_option maxHeartbeats 2000000 in
theorem run_9 (p y x z : Nat) (w : World) (hT : Tf w) (hP : Pr w p y x z) : Calls Tryd.prog 7 #[.slice (some ⟨p, 0, none⟩) 1 1, .slice none 0 0, .int .i64 9] w fun e w' => ∃ g cap, e = .returned (.tuple #[.agg #[.int .i64 1, .int .i64 0, .slice (some ⟨g, 0, none⟩) 2 cap, .int .i64 3], .int .i64 0]) ∧ Cl w' g [.int .u8 55, .int .u8 10] ∧ Below w.heap.size w w' ∧ w.heap.size ≤ g := by
  have HP : Hid (Pr w p y x z) := hP
  have HT : Hid (Tf w) := hT
  have HB0 : Hid (Below w.heap.size w (w.alloc (.cells #[.int .i64 0, .int .i64 0, .slice none 0 0, .int .i64 0] 30))) := (Below.refl _ _).alloc (Nat.le_refl _) _
  have HX : Hid (Cl (w.alloc (.cells #[.int .i64 0, .int .i64 0, .slice none 0 0, .int .i64 0] 30)) w.heap.size [.int .i64 0, .int .i64 0, .slice none 0 0, .int .i64 0]) := Cl.new w [.int .i64 0, .int .i64 0, .slice none 0 0, .int .i64 0] 30
  clear hP hT
  go_enter Tryd.func7, Tryd.ntmps7
  go_wp2_with fail
  refine (check28 p y x z _ (HT.out.below HB0.out) (HP.out.below HB0.out)).mono ?_
  rintro e w1 ⟨rfl, hb1⟩
  have HB1 : Hid (Below w.heap.size w w1) := HB0.out.trans (hb1.mono HB0.out.size)
  have HX1 : Hid (Cl w1 w.heap.size [.int .i64 0, .int .i64 0, .slice none 0 0, .int .i64 0]) := HX.out.below hb1
  clear hb1
  go_wp2_with fail
  refine (outcome_9 p y x z w1 (HP.out.below HB1.out)).mono ?_
  rintro e w2 ⟨g, cap, rfl, hg, hb2, hge⟩
  have HX2 := HX1.out.below hb2
  have HB2 : Hid (Below w.heap.size w w2) := HB1.out.trans (hb2.mono HB1.out.size)
  have hgw : w.heap.size < g := by have := HX1.out.lt; omega
  have HG : Hid (Cl w2 g [.int .u8 55, .int .u8 10]) := hg
  have x0 := HX2.cell (j := 0) rfl
  have x1 := HX2.cell (j := 1) rfl
  have x2 := HX2.cell (j := 2) rfl
  have x3 := HX2.cell (j := 3) rfl
  have zx0 := HX2.fz 0
  have zx1 := HX2.fz 1
  have zx2 := HX2.fz 2
  have zx3 := HX2.fz 3
  have HX3 : Hid (Cl ((((w2.setCell ⟨w.heap.size, 0, none⟩ (.int .i64 1)).setCell ⟨w.heap.size, 1, none⟩ (.int .i64 0)).setCell ⟨w.heap.size, 2, none⟩ (.slice (some ⟨g, 0, none⟩) 2 cap)).setCell ⟨w.heap.size, 3, none⟩ (.int .i64 3)) w.heap.size [.int .i64 1, .int .i64 0, .slice (some ⟨g, 0, none⟩) 2 cap, .int .i64 3]) := (((HX2.set (o := 0) (by simp) _).set (o := 1) (by simp) _).set (o := 2) (by simp) _).set (o := 3) (by simp) _
  have HB3 : Hid (Below w.heap.size w ((((w2.setCell ⟨w.heap.size, 0, none⟩ (.int .i64 1)).setCell ⟨w.heap.size, 1, none⟩ (.int .i64 0)).setCell ⟨w.heap.size, 2, none⟩ (.slice (some ⟨g, 0, none⟩) 2 cap)).setCell ⟨w.heap.size, 3, none⟩ (.int .i64 3))) := ((((HB2.out.setCell (p := ⟨w.heap.size, 0, none⟩) (Nat.le_refl _) _).setCell (p := ⟨w.heap.size, 1, none⟩) (Nat.le_refl _) _).setCell (p := ⟨w.heap.size, 2, none⟩) (Nat.le_refl _) _).setCell (p := ⟨w.heap.size, 3, none⟩) (Nat.le_refl _) _)
  have HG3 : Hid (Cl ((((w2.setCell ⟨w.heap.size, 0, none⟩ (.int .i64 1)).setCell ⟨w.heap.size, 1, none⟩ (.int .i64 0)).setCell ⟨w.heap.size, 2, none⟩ (.slice (some ⟨g, 0, none⟩) 2 cap)).setCell ⟨w.heap.size, 3, none⟩ (.int .i64 3)) g [.int .u8 55, .int .u8 10]) := ((((HG.out.other (by omega)).other (by omega)).other (by omega)).other (by omega))
  clear hg hb2 hge HX2
  go_wp2
  clear x0 x1 x2 x3 zx0 zx1 zx2 zx3
  generalize (((w2.setCell ⟨w.heap.size, 0, none⟩ (.int .i64 1)).setCell ⟨w.heap.size, 1, none⟩ (.int .i64 0)).setCell ⟨w.heap.size, 2, none⟩ (.slice (some ⟨g, 0, none⟩) 2 cap)).setCell ⟨w.heap.size, 3, none⟩ (.int .i64 3) = Wf at *
  have c0 := HX3.out.cell (j := 0) rfl
  have c1 := HX3.out.cell (j := 1) rfl
  have c2 := HX3.out.cell (j := 2) rfl
  have c3 := HX3.out.cell (j := 3) rfl
  exact bodyPost_ret (v := .tuple #[.agg #[.int .i64 1, .int .i64 0, .slice (some ⟨g, 0, none⟩) 2 cap, .int .i64 3], .int .i64 0]) (by simp [results, Tryd.results7, go_sem, c0, c1, c2, c3]) rfl ⟨g, cap, rfl, HG3.out, HB3.out, by omega⟩
set_option maxRecDepth 20000 in
set_option maxHeartbeats 2000000 in
theorem run_2 (p y x z : Nat) (w : World) (hT : Tf w) (hP : Pr w p y x z) : Calls Tryd.prog 7 #[.slice (some ⟨p, 0, none⟩) 1 1, .slice none 0 0, .int .i64 2] w fun e w' => ∃ g cap, e = .returned (.tuple #[.agg #[.int .i64 2, .int .i64 0, .slice (some ⟨g, 0, none⟩) 2 cap, .int .i64 2], .int .i64 0]) ∧ Cl w' g [.int .u8 55, .int .u8 10] ∧ Below w.heap.size w w' ∧ w.heap.size ≤ g := by
  have HP : Hid (Pr w p y x z) := hP
  have HT : Hid (Tf w) := hT
  have HB0 : Hid (Below w.heap.size w (w.alloc (.cells #[.int .i64 0, .int .i64 0, .slice none 0 0, .int .i64 0] 30))) := (Below.refl _ _).alloc (Nat.le_refl _) _
  have HX : Hid (Cl (w.alloc (.cells #[.int .i64 0, .int .i64 0, .slice none 0 0, .int .i64 0] 30)) w.heap.size [.int .i64 0, .int .i64 0, .slice none 0 0, .int .i64 0]) := Cl.new w [.int .i64 0, .int .i64 0, .slice none 0 0, .int .i64 0] 30
  clear hP hT
  go_enter Tryd.func7, Tryd.ntmps7
  go_wp2_with fail
  refine (check28 p y x z _ (HT.out.below HB0.out) (HP.out.below HB0.out)).mono ?_
  rintro e w1 ⟨rfl, hb1⟩
  have HB1 : Hid (Below w.heap.size w w1) := HB0.out.trans (hb1.mono HB0.out.size)
  have HX1 : Hid (Cl w1 w.heap.size [.int .i64 0, .int .i64 0, .slice none 0 0, .int .i64 0]) := HX.out.below hb1
  clear hb1
  go_wp2_with fail
  refine (outcome_2 p y x z w1 (HP.out.below HB1.out)).mono ?_
  rintro e w2 ⟨g, cap, rfl, hg, hb2, hge⟩
  have HX2 := HX1.out.below hb2
  have HB2 : Hid (Below w.heap.size w w2) := HB1.out.trans (hb2.mono HB1.out.size)
  have hgw : w.heap.size < g := by have := HX1.out.lt; omega
  have HG : Hid (Cl w2 g [.int .u8 55, .int .u8 10]) := hg
  have x0 := HX2.cell (j := 0) rfl
  have x1 := HX2.cell (j := 1) rfl
  have x2 := HX2.cell (j := 2) rfl
  have x3 := HX2.cell (j := 3) rfl
  have zx0 := HX2.fz 0
  have zx1 := HX2.fz 1
  have zx2 := HX2.fz 2
  have zx3 := HX2.fz 3
  have HX3 : Hid (Cl ((((w2.setCell ⟨w.heap.size, 0, none⟩ (.int .i64 2)).setCell ⟨w.heap.size, 1, none⟩ (.int .i64 0)).setCell ⟨w.heap.size, 2, none⟩ (.slice (some ⟨g, 0, none⟩) 2 cap)).setCell ⟨w.heap.size, 3, none⟩ (.int .i64 2)) w.heap.size [.int .i64 2, .int .i64 0, .slice (some ⟨g, 0, none⟩) 2 cap, .int .i64 2]) := (((HX2.set (o := 0) (by simp) _).set (o := 1) (by simp) _).set (o := 2) (by simp) _).set (o := 3) (by simp) _
  have HB3 : Hid (Below w.heap.size w ((((w2.setCell ⟨w.heap.size, 0, none⟩ (.int .i64 2)).setCell ⟨w.heap.size, 1, none⟩ (.int .i64 0)).setCell ⟨w.heap.size, 2, none⟩ (.slice (some ⟨g, 0, none⟩) 2 cap)).setCell ⟨w.heap.size, 3, none⟩ (.int .i64 2))) := ((((HB2.out.setCell (p := ⟨w.heap.size, 0, none⟩) (Nat.le_refl _) _).setCell (p := ⟨w.heap.size, 1, none⟩) (Nat.le_refl _) _).setCell (p := ⟨w.heap.size, 2, none⟩) (Nat.le_refl _) _).setCell (p := ⟨w.heap.size, 3, none⟩) (Nat.le_refl _) _)
  have HG3 : Hid (Cl ((((w2.setCell ⟨w.heap.size, 0, none⟩ (.int .i64 2)).setCell ⟨w.heap.size, 1, none⟩ (.int .i64 0)).setCell ⟨w.heap.size, 2, none⟩ (.slice (some ⟨g, 0, none⟩) 2 cap)).setCell ⟨w.heap.size, 3, none⟩ (.int .i64 2)) g [.int .u8 55, .int .u8 10]) := ((((HG.out.other (by omega)).other (by omega)).other (by omega)).other (by omega))
  clear hg hb2 hge HX2
  go_wp2
  clear x0 x1 x2 x3 zx0 zx1 zx2 zx3
  generalize (((w2.setCell ⟨w.heap.size, 0, none⟩ (.int .i64 2)).setCell ⟨w.heap.size, 1, none⟩ (.int .i64 0)).setCell ⟨w.heap.size, 2, none⟩ (.slice (some ⟨g, 0, none⟩) 2 cap)).setCell ⟨w.heap.size, 3, none⟩ (.int .i64 2) = Wf at *
  have c0 := HX3.out.cell (j := 0) rfl
  have c1 := HX3.out.cell (j := 1) rfl
  have c2 := HX3.out.cell (j := 2) rfl
  have c3 := HX3.out.cell (j := 3) rfl
  exact bodyPost_ret (v := .tuple #[.agg #[.int .i64 2, .int .i64 0, .slice (some ⟨g, 0, none⟩) 2 cap, .int .i64 2], .int .i64 0]) (by simp [results, Tryd.results7, go_sem, c0, c1, c2, c3]) rfl ⟨g, cap, rfl, HG3.out, HB3.out, by omega⟩
end
section
open Go.RowKit Go.Shelf
set_option maxRecDepth 20000 in
set_option maxHeartbeats 4000000 in
theorem speaks6 (w : World) (hT : Tf w) : Calls Tryd.prog 9 #[] w fun e w' => e = .returned (.bool true) ∧ Below w.heap.size w w' := by
  have HT : Hid (Tf w) := hT
  clear hT
  go_enter Tryd.func9, Tryd.ntmps9
  go_wp2_with fail
  refine (seven11 w).mono ?_
  rintro e w1 ⟨p, y, x, z, rfl, hp, hb1⟩
  have HB1 : Hid (Below w.heap.size w w1) := hb1
  have HP1 : Hid (Pr w1 p y x z) := hp
  clear hp hb1
  go_wp2_with fail
  refine (run_9 p y x z w1 (HT.out.below HB1.out) HP1.out).mono ?_
  rintro e w2 ⟨g, cap, rfl, hg, hb2, hge⟩
  have HB2 : Hid (Below w.heap.size w w2) := HB1.out.trans (hb2.mono HB1.out.size)
  have HG2 : Hid (Cl w2 g [.int .u8 55, .int .u8 10]) := hg
  have HB3 : Hid (Below w.heap.size w (w2.alloc (.cells #[.int .i64 1, .int .i64 0, .slice (some ⟨g, 0, none⟩) 2 cap, .int .i64 3] 30))) := HB2.out.alloc HB2.out.size _
  have HG3 : Hid (Cl (w2.alloc (.cells #[.int .i64 1, .int .i64 0, .slice (some ⟨g, 0, none⟩) 2 cap, .int .i64 3] 30)) g [.int .u8 55, .int .u8 10]) := hg.alloc _
  have HX3 : Hid (Cl (w2.alloc (.cells #[.int .i64 1, .int .i64 0, .slice (some ⟨g, 0, none⟩) 2 cap, .int .i64 3] 30)) w2.heap.size [.int .i64 1, .int .i64 0, .slice (some ⟨g, 0, none⟩) 2 cap, .int .i64 3]) := Cl.new w2 [.int .i64 1, .int .i64 0, .slice (some ⟨g, 0, none⟩) 2 cap, .int .i64 3] 30
  clear hg hb2 hge
  go_wp2_with fail
  generalize w2.alloc (.cells #[.int .i64 1, .int .i64 0, .slice (some ⟨g, 0, none⟩) 2 cap, .int .i64 3] 30) = V at *
  refine (seven11 V).mono ?_
  rintro e w3 ⟨p', y', x', z', rfl, hp, hb4⟩
  have HB4 : Hid (Below w.heap.size w w3) := HB3.out.trans (hb4.mono HB3.out.size)
  have HP4 : Hid (Pr w3 p' y' x' z') := hp
  have HG4 : Hid (Cl w3 g [.int .u8 55, .int .u8 10]) := HG3.out.below hb4
  have HX4 : Hid (Cl w3 w2.heap.size [.int .i64 1, .int .i64 0, .slice (some ⟨g, 0, none⟩) 2 cap, .int .i64 3]) := HX3.out.below hb4
  clear hp hb4
  go_wp2_with fail
  refine (run_2 p' y' x' z' w3 (HT.out.below HB4.out) HP4.out).mono ?_
  rintro e w4 ⟨g', cap', rfl, hg, hb5, hge⟩
  have HB5 : Hid (Below w.heap.size w w4) := HB4.out.trans (hb5.mono HB4.out.size)
  have hG5 := HG4.out.below hb5
  have hX5 := HX4.out.below hb5
  have x0 := acell hX5.lt (hX5.cell (j := 0) rfl)
  have x1 := acell hX5.lt (hX5.cell (j := 1) rfl)
  have x2 := acell hX5.lt (hX5.cell (j := 2) rfl)
  have x3 := acell hX5.lt (hX5.cell (j := 3) rfl)
  have g0 := acell hG5.lt (hG5.cell (j := 0) rfl)
  have g1 := acell hG5.lt (hG5.cell (j := 1) rfl)
  have hcv : (convert 23 9 (.slice (some ⟨g, 0, none⟩) 2 cap)).run Tryd.prog (w4.alloc (.cells #[.int .i64 2, .int .i64 0, .slice (some ⟨g', 0, none⟩) 2 cap', .int .i64 2] 30)) = .ok (.string ⟨#[55, 10]⟩) (w4.alloc (.cells #[.int .i64 2, .int .i64 0, .slice (some ⟨g', 0, none⟩) 2 cap', .int .i64 2] 30)) := run_convert_bytes_back _ 23 9 5 ⟨g, 0, none⟩ cap [55, 10] Tryd.underlying23 Tryd.underlying5 Tryd.underlying9 (fun j hj => by rcases (by simp at hj; omega : j = 0 ∨ j = 1) with rfl | rfl <;> first | exact g0 _ | exact g1 _)
  clear hg hb5 hge hG5 hX5
  go_wp2
  go_ret
  exact ⟨rfl, HB5.out.alloc HB5.out.size _⟩
end
end Go.Proofs.YtdppoblbenbafaaDoor
