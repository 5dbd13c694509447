/- What every statement of lir asks first. What every statement of lir asks first is so. A program that touches no memory by an address ends or stops: the statement's own law. Programs as they come in: what a reading of them says of memory. -/
import Derived.Test.YtdppoblbenbafaaDoorD2
import Derived.Laws.IdiomStrings
import Derived.Test.YtdppoblbenbafaaDoorXAY
import Derived.Test.YtdppoblbenbafaaDoorXAZ
import Derived.Test.YtdppoblbenbafaaDoorXAG
import Derived.SizedLaws
import Derived.Deep.Slices
import Derived.Deep.Strs
namespace Go.Proofs.YtdppoblbenbafaaDoor
section
open Go.RowKit Go.Shelf
set_option maxRecDepth 20000 in
set_option maxHeartbeats 2000000 in
theorem seven11 (w : World) : Calls Tryd.prog 14 #[] w fun e w' => ∃ p y x z, e = .returned (.slice (some ⟨p, 0, none⟩) 1 1) ∧ Pr w' p y x z ∧ Below w.heap.size w w' := by
  go_enter Tryd.func14, Tryd.ntmps14
  go_wp2
  go_ret
  refine ⟨w.heap.size + 1 + 1 + 1, w.heap.size + 1 + 1, w.heap.size + 1, w.heap.size, rfl, ?_, ?_⟩
  · refine ⟨by go_simp, by go_simp, by go_simp, by go_simp, by go_simp, by go_simp, ⟨?_, by go_simp, by simp, by simp; omega⟩, by simp, by simp⟩
    intro j v hj
    have t := ((Cl.new (w.alloc (.cells #[.int .i64 0] 3)) (insL w.heap.size) 49).alloc (.cells #[.slice (some ⟨w.heap.size + 1, 0, none⟩) 3 3] 46)).alloc (.cells #[.string ⟨#[109, 97, 105, 110]⟩, .int .i64 0, .int .i64 1, .int .i64 0, .slice (some ⟨w.heap.size + 1 + 1, 0, none⟩) 1 1] 43)
    rw [show (w.alloc (.cells #[.int .i64 0] 3)).heap.size = w.heap.size + 1 by simp] at t
    exact t.cell hj
  · exact ((((G.refl w).alloc _).alloc _).alloc _ |>.alloc _).below
set_option maxRecDepth 20000 in
set_option maxHeartbeats 2000000 in
theorem run_9 (p y x z : Nat) (w : World) (hT : Tf w) (hP : Pr w p y x z) : Calls Tryd.prog 7 #[.slice (some ⟨p, 0, none⟩) 1 1, .slice none 0 0, .int .i64 9] w fun e w' => ∃ g cap, e = .returned (.tuple #[.agg #[.int .i64 1, .int .i64 0, .slice (some ⟨g, 0, none⟩) 2 cap, .int .i64 3], .int .i64 0]) ∧ Cl w' g [.int .u8 55, .int .u8 10] ∧ Below w.heap.size w w' ∧ w.heap.size ≤ g := by
  have HP : Hid (Pr w p y x z) := hP
  have HT : Hid (Tf w) := hT
  have HB0 : Hid (Below w.heap.size w (w.alloc (.cells #[.int .i64 0, .int .i64 0, .slice none 0 0, .int .i64 0] 30))) := (Below.refl _ _).alloc (Nat.le_refl _) _
  have HX : Hid (Cl (w.alloc (.cells #[.int .i64 0, .int .i64 0, .slice none 0 0, .int .i64 0] 30)) w.heap.size [.int .i64 0, .int .i64 0, .slice none 0 0, .int .i64 0]) := Cl.new w [.int .i64 0, .int .i64 0, .slice none 0 0, .int .i64 0] 30
  clear hP hT
  go_enter Tryd.func7, Tryd.ntmps7
  go_wp2_with fail
  refine (check28 p y x z _ (HT.out.below HB0.out) (HP.out.below HB0.out)).mono ?_
  rintro e w1 ⟨rfl, hb1⟩
  have HB1 : Hid (Below w.heap.size w w1) := HB0.out.trans (hb1.mono HB0.out.size)
  have HX1 : Hid (Cl w1 w.heap.size [.int .i64 0, .int .i64 0, .slice none 0 0, .int .i64 0]) := HX.out.below hb1
  clear hb1
  go_wp2_with fail
  refine (outcome_9 p y x z w1 (HP.out.below HB1.out)).mono ?_
  rintro e w2 ⟨g, cap, rfl, hg, hb2, hge⟩
  have HX2 := HX1.out.below hb2
  have HB2 : Hid (Below w.heap.size w w2) := HB1.out.trans (hb2.mono HB1.out.size)
  have hgw : w.heap.size < g := by have := HX1.out.lt; omega
  have HG : Hid (Cl w2 g [.int .u8 55, .int .u8 10]) := hg
  have x0 := HX2.cell (j := 0) rfl
  have x1 := HX2.cell (j := 1) rfl
  have x2 := HX2.cell (j := 2) rfl
  have x3 := HX2.cell (j := 3) rfl
  have zx0 := HX2.fz 0
  have zx1 := HX2.fz 1
  have zx2 := HX2.fz 2
  have zx3 := HX2.fz 3
  have HX3 : Hid (Cl ((((w2.setCell ⟨w.heap.size, 0, none⟩ (.int .i64 1)).setCell ⟨w.heap.size, 1, none⟩ (.int .i64 0)).setCell ⟨w.heap.size, 2, none⟩ (.slice (some ⟨g, 0, none⟩) 2 cap)).setCell ⟨w.heap.size, 3, none⟩ (.int .i64 3)) w.heap.size [.int .i64 1, .int .i64 0, .slice (some ⟨g, 0, none⟩) 2 cap, .int .i64 3]) := (((HX2.set (o := 0) (by simp) _).set (o := 1) (by simp) _).set (o := 2) (by simp) _).set (o := 3) (by simp) _
  have HB3 : Hid (Below w.heap.size w ((((w2.setCell ⟨w.heap.size, 0, none⟩ (.int .i64 1)).setCell ⟨w.heap.size, 1, none⟩ (.int .i64 0)).setCell ⟨w.heap.size, 2, none⟩ (.slice (some ⟨g, 0, none⟩) 2 cap)).setCell ⟨w.heap.size, 3, none⟩ (.int .i64 3))) := ((((HB2.out.setCell (p := ⟨w.heap.size, 0, none⟩) (Nat.le_refl _) _).setCell (p := ⟨w.heap.size, 1, none⟩) (Nat.le_refl _) _).setCell (p := ⟨w.heap.size, 2, none⟩) (Nat.le_refl _) _).setCell (p := ⟨w.heap.size, 3, none⟩) (Nat.le_refl _) _)
  have HG3 : Hid (Cl ((((w2.setCell ⟨w.heap.size, 0, none⟩ (.int .i64 1)).setCell ⟨w.heap.size, 1, none⟩ (.int .i64 0)).setCell ⟨w.heap.size, 2, none⟩ (.slice (some ⟨g, 0, none⟩) 2 cap)).setCell ⟨w.heap.size, 3, none⟩ (.int .i64 3)) g [.int .u8 55, .int .u8 10]) := ((((HG.out.other (by omega)).other (by omega)).other (by omega)).other (by omega))
  clear hg hb2 hge HX2
  go_wp2
  clear x0 x1 x2 x3 zx0 zx1 zx2 zx3
  generalize (((w2.setCell ⟨w.heap.size, 0, none⟩ (.int .i64 1)).setCell ⟨w.heap.size, 1, none⟩ (.int .i64 0)).setCell ⟨w.heap.size, 2, none⟩ (.slice (some ⟨g, 0, none⟩) 2 cap)).setCell ⟨w.heap.size, 3, none⟩ (.int .i64 3) = Wf at *
  have c0 := HX3.out.cell (j := 0) rfl
  have c1 := HX3.out.cell (j := 1) rfl
  have c2 := HX3.out.cell (j := 2) rfl
  have c3 := HX3.out.cell (j := 3) rfl
  exact bodyPost_ret (v := .tuple #[.agg #[.int .i64 1, .int .i64 0, .slice (some ⟨g, 0, none⟩) 2 cap, .int .i64 3], .int .i64 0]) (by simp [results, Tryd.results7, go_sem, c0, c1, c2, c3]) rfl ⟨g, cap, rfl, HG3.out, HB3.out, by omega⟩
set_option maxRecDepth 20000 in
set_option maxHeartbeats 2000000 in
theorem run_2 (p y x z : Nat) (w : World) (hT : Tf w) (hP : Pr w p y x z) : Calls Tryd.prog 7 #[.slice (some ⟨p, 0, none⟩) 1 1, .slice none 0 0, .int .i64 2] w fun e w' => ∃ g cap, e = .returned (.tuple #[.agg #[.int .i64 2, .int .i64 0, .slice (some ⟨g, 0, none⟩) 2 cap, .int .i64 2], .int .i64 0]) ∧ Cl w' g [.int .u8 55, .int .u8 10] ∧ Below w.heap.size w w' ∧ w.heap.size ≤ g := by
  have HP : Hid (Pr w p y x z) := hP
  have HT : Hid (Tf w) := hT
  have HB0 : Hid (Below w.heap.size w (w.alloc (.cells #[.int .i64 0, .int .i64 0, .slice none 0 0, .int .i64 0] 30))) := (Below.refl _ _).alloc (Nat.le_refl _) _
  have HX : Hid (Cl (w.alloc (.cells #[.int .i64 0, .int .i64 0, .slice none 0 0, .int .i64 0] 30)) w.heap.size [.int .i64 0, .int .i64 0, .slice none 0 0, .int .i64 0]) := Cl.new w [.int .i64 0, .int .i64 0, .slice none 0 0, .int .i64 0] 30
  clear hP hT
  go_enter Tryd.func7, Tryd.ntmps7
  go_wp2_with fail
  refine (check28 p y x z _ (HT.out.below HB0.out) (HP.out.below HB0.out)).mono ?_
  rintro e w1 ⟨rfl, hb1⟩
  have HB1 : Hid (Below w.heap.size w w1) := HB0.out.trans (hb1.mono HB0.out.size)
  have HX1 : Hid (Cl w1 w.heap.size [.int .i64 0, .int .i64 0, .slice none 0 0, .int .i64 0]) := HX.out.below hb1
  clear hb1
  go_wp2_with fail
  refine (outcome_2 p y x z w1 (HP.out.below HB1.out)).mono ?_
  rintro e w2 ⟨g, cap, rfl, hg, hb2, hge⟩
  have HX2 := HX1.out.below hb2
  have HB2 : Hid (Below w.heap.size w w2) := HB1.out.trans (hb2.mono HB1.out.size)
  have hgw : w.heap.size < g := by have := HX1.out.lt; omega
  have HG : Hid (Cl w2 g [.int .u8 55, .int .u8 10]) := hg
  have x0 := HX2.cell (j := 0) rfl
  have x1 := HX2.cell (j := 1) rfl
  have x2 := HX2.cell (j := 2) rfl
  have x3 := HX2.cell (j := 3) rfl
  have zx0 := HX2.fz 0
  have zx1 := HX2.fz 1
  have zx2 := HX2.fz 2
  have zx3 := HX2.fz 3
  have HX3 : Hid (Cl ((((w2.setCell ⟨w.heap.size, 0, none⟩ (.int .i64 2)).setCell ⟨w.heap.size, 1, none⟩ (.int .i64 0)).setCell ⟨w.heap.size, 2, none⟩ (.slice (some ⟨g, 0, none⟩) 2 cap)).setCell ⟨w.heap.size, 3, none⟩ (.int .i64 2)) w.heap.size [.int .i64 2, .int .i64 0, .slice (some ⟨g, 0, none⟩) 2 cap, .int .i64 2]) := (((HX2.set (o := 0) (by simp) _).set (o := 1) (by simp) _).set (o := 2) (by simp) _).set (o := 3) (by simp) _
  have HB3 : Hid (Below w.heap.size w ((((w2.setCell ⟨w.heap.size, 0, none⟩ (.int .i64 2)).setCell ⟨w.heap.size, 1, none⟩ (.int .i64 0)).setCell ⟨w.heap.size, 2, none⟩ (.slice (some ⟨g, 0, none⟩) 2 cap)).setCell ⟨w.heap.size, 3, none⟩ (.int .i64 2))) := ((((HB2.out.setCell (p := ⟨w.heap.size, 0, none⟩) (Nat.le_refl _) _).setCell (p := ⟨w.heap.size, 1, none⟩) (Nat.le_refl _) _).setCell (p := ⟨w.heap.size, 2, none⟩) (Nat.le_refl _) _).setCell (p := ⟨w.heap.size, 3, none⟩) (Nat.le_refl _) _)
  have HG3 : Hid (Cl ((((w2.setCell ⟨w.heap.size, 0, none⟩ (.int .i64 2)).setCell ⟨w.heap.size, 1, none⟩ (.int .i64 0)).setCell ⟨w.heap.size, 2, none⟩ (.slice (some ⟨g, 0, none⟩) 2 cap)).setCell ⟨w.heap.size, 3, none⟩ (.int .i64 2)) g [.int .u8 55, .int .u8 10]) := ((((HG.out.other (by omega)).other (by omega)).other (by omega)).other (by omega))
  clear hg hb2 hge HX2
  go_wp2
  clear x0 x1 x2 x3 zx0 zx1 zx2 zx3
  generalize (((w2.setCell ⟨w.heap.size, 0, none⟩ (.int .i64 2)).setCell ⟨w.heap.size, 1, none⟩ (.int .i64 0)).setCell ⟨w.heap.size, 2, none⟩ (.slice (some ⟨g, 0, none⟩) 2 cap)).setCell ⟨w.heap.size, 3, none⟩ (.int .i64 2) = Wf at *
  have c0 := HX3.out.cell (j := 0) rfl
  have c1 := HX3.out.cell (j := 1) rfl
  have c2 := HX3.out.cell (j := 2) rfl
  have c3 := HX3.out.cell (j := 3) rfl
  exact bodyPost_ret (v := .tuple #[.agg #[.int .i64 2, .int .i64 0, .slice (some ⟨g, 0, none⟩) 2 cap, .int .i64 2], .int .i64 0]) (by simp [results, Tryd.results7, go_sem, c0, c1, c2, c3]) rfl ⟨g, cap, rfl, HG3.out, HB3.out, by omega⟩
end
section
open Go.RowKit Go.Shelf
set_option maxRecDepth 20000 in
set_option maxHeartbeats 4000000 in
theorem speaks6 (w : World) (hT : Tf w) : Calls Tryd.prog 9 #[] w fun e w' => e = .returned (.bool true) ∧ Below w.heap.size w w' := by
  have HT : Hid (Tf w) := hT
  clear hT
  go_enter Tryd.func9, Tryd.ntmps9
  go_wp2_with fail
  refine (seven11 w).mono ?_
  rintro e w1 ⟨p, y, x, z, rfl, hp, hb1⟩
  have HB1 : Hid (Below w.heap.size w w1) := hb1
  have HP1 : Hid (Pr w1 p y x z) := hp
  clear hp hb1
  go_wp2_with fail
  refine (run_9 p y x z w1 (HT.out.below HB1.out) HP1.out).mono ?_
  rintro e w2 ⟨g, cap, rfl, hg, hb2, hge⟩
  have HB2 : Hid (Below w.heap.size w w2) := HB1.out.trans (hb2.mono HB1.out.size)
  have HG2 : Hid (Cl w2 g [.int .u8 55, .int .u8 10]) := hg
  have HB3 : Hid (Below w.heap.size w (w2.alloc (.cells #[.int .i64 1, .int .i64 0, .slice (some ⟨g, 0, none⟩) 2 cap, .int .i64 3] 30))) := HB2.out.alloc HB2.out.size _
  have HG3 : Hid (Cl (w2.alloc (.cells #[.int .i64 1, .int .i64 0, .slice (some ⟨g, 0, none⟩) 2 cap, .int .i64 3] 30)) g [.int .u8 55, .int .u8 10]) := hg.alloc _
  have HX3 : Hid (Cl (w2.alloc (.cells #[.int .i64 1, .int .i64 0, .slice (some ⟨g, 0, none⟩) 2 cap, .int .i64 3] 30)) w2.heap.size [.int .i64 1, .int .i64 0, .slice (some ⟨g, 0, none⟩) 2 cap, .int .i64 3]) := Cl.new w2 [.int .i64 1, .int .i64 0, .slice (some ⟨g, 0, none⟩) 2 cap, .int .i64 3] 30
  clear hg hb2 hge
  go_wp2_with fail
  generalize w2.alloc (.cells #[.int .i64 1, .int .i64 0, .slice (some ⟨g, 0, none⟩) 2 cap, .int .i64 3] 30) = V at *
  refine (seven11 V).mono ?_
  rintro e w3 ⟨p', y', x', z', rfl, hp, hb4⟩
  have HB4 : Hid (Below w.heap.size w w3) := HB3.out.trans (hb4.mono HB3.out.size)
  have HP4 : Hid (Pr w3 p' y' x' z') := hp
  have HG4 : Hid (Cl w3 g [.int .u8 55, .int .u8 10]) := HG3.out.below hb4
  have HX4 : Hid (Cl w3 w2.heap.size [.int .i64 1, .int .i64 0, .slice (some ⟨g, 0, none⟩) 2 cap, .int .i64 3]) := HX3.out.below hb4
  clear hp hb4
  go_wp2_with fail
  refine (run_2 p' y' x' z' w3 (HT.out.below HB4.out) HP4.out).mono ?_
  rintro e w4 ⟨g', cap', rfl, hg, hb5, hge⟩
  have HB5 : Hid (Below w.heap.size w w4) := HB4.out.trans (hb5.mono HB4.out.size)
  have hG5 := HG4.out.below hb5
  have hX5 := HX4.out.below hb5
  have x0 := acell hX5.lt (hX5.cell (j := 0) rfl)
  have x1 := acell hX5.lt (hX5.cell (j := 1) rfl)
  have x2 := acell hX5.lt (hX5.cell (j := 2) rfl)
  have x3 := acell hX5.lt (hX5.cell (j := 3) rfl)
  have g0 := acell hG5.lt (hG5.cell (j := 0) rfl)
  have g1 := acell hG5.lt (hG5.cell (j := 1) rfl)
  have hcv : (convert 23 9 (.slice (some ⟨g, 0, none⟩) 2 cap)).run Tryd.prog (w4.alloc (.cells #[.int .i64 2, .int .i64 0, .slice (some ⟨g', 0, none⟩) 2 cap', .int .i64 2] 30)) = .ok (.string ⟨#[55, 10]⟩) (w4.alloc (.cells #[.int .i64 2, .int .i64 0, .slice (some ⟨g', 0, none⟩) 2 cap', .int .i64 2] 30)) := run_convert_bytes_back _ 23 9 5 ⟨g, 0, none⟩ cap [55, 10] Tryd.underlying23 Tryd.underlying5 Tryd.underlying9 (fun j hj => by rcases (by simp at hj; omega : j = 0 ∨ j = 1) with rfl | rfl <;> first | exact g0 _ | exact g1 _)
  clear hg hb5 hge hG5 hX5
  go_wp2
  go_ret
  exact ⟨rfl, HB5.out.alloc HB5.out.size _⟩
end
section
open Go.RowKit Go.Shelf
set_option maxRecDepth 20000 in
set_option maxHeartbeats 4000000 in
theorem law4_err (p : List Fun) (pp iv : Option Addr) (pc n ic : Nat) (fuel : Int) (w : World) (hT : Tfa w) (hI : FunA w pp pc p) (he : ¬ errV p n (fewI fuel) = 0) : Calls Tryd.prog 4 #[.slice pp p.length pc, .slice iv n ic, .int .i64 fuel] w fun e w' => e = .returned (.bool true) ∧ Below w.heap.size w w' := by
  have HR : Hid (∀ W, Below w.heap.size w W → Calls Tryd.prog 7 #[.slice pp p.length pc, .slice iv n ic, .int .i64 (fewI fuel)] W fun e w' => e = .returned (.tuple #[.agg #[.int .i64 0, .int .i64 0, .slice none 0 0, .int .i64 0], .int .i64 (errV p n (fewI fuel))]) ∧ Below W.heap.size W w') := fun W hb => run_err p pp iv pc n ic (fewI fuel) W (hT.below hb) (hI.below hb) he
  have HS : Hid (∀ W, Below w.heap.size w W → Calls Tryd.prog 9 #[] W fun e w' => e = .returned (.bool true) ∧ Below W.heap.size W w') := fun W hb => speaks6 W (tfaTf (hT.below hb))
  have HF : Hid (∀ W, Calls Tryd.prog 6 #[.int .i64 fuel] W fun e w' => e = .returned (.int .i64 (fewI fuel)) ∧ w' = W) := fun W => few6 W fuel
  generalize errV p n (fewI fuel) = E at *
  generalize fewI fuel = F at *
  obtain ⟨m, hm⟩ : ∃ m, m = p.length := ⟨_, rfl⟩
  rw [← hm] at HR ⊢
  clear hT hI hm
  go_enter Tryd.func4, Tryd.ntmps4
  go_wp2_with fail
  refine (HF.out _).mono ?_
  rintro e w1 ⟨rfl, rfl⟩
  go_wp2_with fail
  refine (HR.out w1 (Below.refl _ _)).mono ?_
  rintro e w2 ⟨rfl, hb⟩
  have HB2 : Hid (Below w1.heap.size w1 w2) := hb
  have HB3 : Hid (Below w1.heap.size w1 (w2.alloc (.cells #[.int .i64 0, .int .i64 0, .slice none 0 0, .int .i64 0] 30))) := HB2.out.alloc HB2.out.size _
  have HX3 : Hid (Cl (w2.alloc (.cells #[.int .i64 0, .int .i64 0, .slice none 0 0, .int .i64 0] 30)) w2.heap.size [.int .i64 0, .int .i64 0, .slice none 0 0, .int .i64 0]) := Cl.new w2 [.int .i64 0, .int .i64 0, .slice none 0 0, .int .i64 0] 30
  have he' : (E == 0) = false := by simpa using he
  clear hb
  go_wp2_with fail
  refine (HS.out _ HB3.out).mono ?_
  rintro e w3 ⟨rfl, hb⟩
  have HB4 : Hid (Below w1.heap.size w1 w3) := HB3.out.trans (hb.mono HB3.out.size)
  clear hb
  go_wp2
  go_ret
  exact ⟨rfl, HB4.out⟩
set_option maxRecDepth 20000 in
set_option maxHeartbeats 4000000 in
theorem law4_ok (p : List Fun) (pp iv : Option Addr) (pc ic k : Nat) (fuel : Int) (l : List UInt8) (w : World) (hT : Tfa w) (hP : PwT w) (hp : PrF p) (hI : FunA w pp pc p) (hiv : InV w w (.slice iv l.length ic) l) (hl : l.length ≤ 65536) (hk : fewI fuel = k) (hf : k ≤ 524288) : Calls Tryd.prog 4 #[.slice pp p.length pc, .slice iv l.length ic, .int .i64 fuel] w fun e w' => e = .returned (.bool true) ∧ Below w.heap.size w w' := by
  have HR : Hid (Calls Tryd.prog 7 #[.slice pp p.length pc, .slice iv l.length ic, .int .i64 k] w fun e w' => ∃ ov, e = .returned (.tuple #[.agg #[.int .i64 (runP p l k).en, .int .i64 (runP p l k).cd, ov, .int .i64 ((runP p l k).st : Nat)], .int .i64 0]) ∧ w'.ownsRow w.heap.size 5 1 ov (runP p l k).out.length (Lib.byteCells (runP p l k).out) ∧ Below w.heap.size w w') := run_ok p pp iv pc ic k l w hT hP hp hI hiv hl hf
  have HS : Hid (∀ W, Below w.heap.size w W → Calls Tryd.prog 9 #[] W fun e w' => e = .returned (.bool true) ∧ Below W.heap.size W w') := fun W hb => speaks6 W (tfaTf (hT.below hb))
  have HF : Hid (∀ W, Calls Tryd.prog 6 #[.int .i64 fuel] W fun e w' => e = .returned (.int .i64 k) ∧ w' = W) := fun W => by rw [← hk]; exact few6 W fuel
  have HU : Hid (∀ W, Below w.heap.size w W → Calls Tryd.prog 8 #[.slice pp p.length pc] W fun e w' => e = .returned (.bool (touB p)) ∧ Below W.heap.size W w') := fun W hb => touches8 p pp pc W (hI.below hb)
  have HN : Hid (touB p = false → (runP p l k).en = 1 ∨ (runP p l k).en = 2) := fun h => runP_noT hp h l k (by omega)
  generalize runP p l k = O at *
  generalize touB p = T at *
  obtain ⟨m, hm⟩ : ∃ m, m = p.length := ⟨_, rfl⟩
  obtain ⟨n, hn⟩ : ∃ n, n = l.length := ⟨_, rfl⟩
  rw [← hm] at HR HU ⊢
  rw [← hn] at HR ⊢
  clear hT hI hm hn hP hp hiv hl hk hf
  go_enter Tryd.func4, Tryd.ntmps4
  go_wp2_with fail
  refine (HF.out _).mono ?_
  rintro e w1 ⟨rfl, rfl⟩
  go_wp2_with fail
  refine HR.out.mono ?_
  rintro e w2 ⟨ov, rfl, hown, hb⟩
  obtain ⟨cg, cn, cc, rfl⟩ : ∃ cg cn cc, ov = .slice cg cn cc := by
    obtain ⟨_, ⟨e, _⟩ | ⟨g9, cap9, cur9, e, _⟩⟩ := hown
    · exact ⟨_, _, _, e⟩
    · exact ⟨_, _, _, e⟩
  have HB2 : Hid (Below w1.heap.size w1 w2) := hb
  have HB3 : Hid (Below w1.heap.size w1 (w2.alloc (.cells #[.int .i64 O.en, .int .i64 O.cd, .slice cg cn cc, .int .i64 ((O.st : Nat) : Int)] 30))) := HB2.out.alloc HB2.out.size _
  have HX3 : Hid (Cl (w2.alloc (.cells #[.int .i64 O.en, .int .i64 O.cd, .slice cg cn cc, .int .i64 ((O.st : Nat) : Int)] 30)) w2.heap.size [.int .i64 O.en, .int .i64 O.cd, .slice cg cn cc, .int .i64 ((O.st : Nat) : Int)]) := Cl.new w2 [.int .i64 O.en, .int .i64 O.cd, .slice cg cn cc, .int .i64 ((O.st : Nat) : Int)] 30
  clear hb hown HR
  go_wp2_with fail
  refine (HU.out _ HB3.out).mono ?_
  rintro e w3 ⟨rfl, hb⟩
  have HB4 : Hid (Below w1.heap.size w1 w3) := HB3.out.trans (hb.mono HB3.out.size)
  have x0 := (HX3.out.below hb).cell (j := 0) rfl
  have x3 := (HX3.out.below hb).cell (j := 3) rfl
  clear hb HX3
  cases T with
  | true =>
    clear HN
    go_wp2_with fail
    refine (HS.out _ HB4.out).mono ?_
    rintro e w4 ⟨rfl, hb⟩
    have HB5 : Hid (Below w1.heap.size w1 w4) := HB4.out.trans (hb.mono HB4.out.size)
    clear hb
    go_wp2
    go_ret
    exact ⟨rfl, HB5.out⟩
  | false =>
    rcases HN.out rfl with h | h
    · rw [h] at x0
      clear HN h
      go_wp2_with fail
      refine (HS.out _ HB4.out).mono ?_
      rintro e w4 ⟨rfl, hb⟩
      have HB5 : Hid (Below w1.heap.size w1 w4) := HB4.out.trans (hb.mono HB4.out.size)
      clear hb
      go_wp2
      go_ret
      exact ⟨rfl, HB5.out⟩
    · rw [h] at x0
      clear HN h
      go_wp2_with fail
      refine (HS.out _ HB4.out).mono ?_
      rintro e w4 ⟨rfl, hb⟩
      have HB5 : Hid (Below w1.heap.size w1 w4) := HB4.out.trans (hb.mono HB4.out.size)
      clear hb
      go_wp2
      go_ret
      exact ⟨rfl, HB5.out⟩
theorem law4 (p : List Fun) (pp iv : Option Addr) (pc ic : Nat) (fuel : Int) (l : List UInt8) (w : World) (hT : Tfa w) (hP : PwT w) (hn : N64 p) (hI : FunA w pp pc p) (hiv : InV w w (.slice iv l.length ic) l) : Calls Tryd.prog 4 #[.slice pp p.length pc, .slice iv l.length ic, .int .i64 fuel] w fun e w' => e = .returned (.bool true) ∧ Below w.heap.size w w' := by
  by_cases he : errV p l.length (fewI fuel) = 0
  · have hp : prB p = true := by
      cases hb : prB p with
      | true => rfl
      | false => simp [errV, hb] at he
    have hl : ¬ 65536 < l.length := fun h => by simp [errV, hp, h] at he
    have hf : ¬ fewI fuel < 0 := fun h => by simp [errV, hp, hl, h] at he
    have h5 : fewI fuel ≤ 5000 := by unfold fewI; omega
    exact law4_ok p pp iv pc ic (fewI fuel).toNat fuel l w hT hP ⟨hp, hn, fun x hx => (hI.2.2.1 x hx).1⟩ hI hiv (by omega) (by omega) (by omega)
  · exact law4_err p pp iv pc l.length ic fuel w hT hI he
end
section
open Go.ChangeShapes Go.WideShapes Go.ChangeAt Go.RowKit Go.Deep Go.Joins Go.ChangeMaps
theorem cells9 : Tryd.prog.cellsOf 9 = 1 := by kernel_rfl
theorem cells3 : Tryd.prog.cellsOf 3 = 1 := by kernel_rfl
theorem cells2 : Tryd.prog.cellsOf 2 = 1 := by kernel_rfl
theorem cells51 : Tryd.prog.cellsOf 47 = 1 := by kernel_rfl
theorem cells47 : Tryd.prog.cellsOf 44 = 1 := by kernel_rfl
theorem cells25 : Tryd.prog.cellsOf 41 = 1 := by kernel_rfl
theorem cells22 : Tryd.prog.cellsOf 22 = 1 := by kernel_rfl
theorem cells49 : Tryd.prog.cellsOf 46 = 1 := by kernel_rfl
theorem cells54 : Tryd.prog.cellsOf 49 = 9 := by kernel_rfl
theorem cells27 : Tryd.prog.cellsOf 43 = 5 := by kernel_rfl
theorem spot_none {W : World} {a : Addr} {v : Value} (h : W.cell? a = some v) : a = ⟨a.block, a.off, none⟩ := by
  obtain ⟨b, o, s⟩ := a
  cases s with
  | none => rfl
  | some x =>
    unfold World.cell? at h
    split at h
    · simp at h
    · cases h
/-- Cells, one by one. -/
theorem cells_at {W : World} {base : Nat} {A : Addr} {n : Nat} {cs : List Value} (h : W.cells? base A n = some cs) : cs.length = n ∧ ∀ (j : Nat) (v : Value), cs[j]? = some v → W.cell? (A.add j) = some v := by
  unfold World.cells? at h
  split at h
  · have hl := Lib.mapM_length h
    simp at hl
    refine ⟨hl, fun j v hv => ?_⟩
    have hj : j < n := by
      have := (List.getElem?_eq_some_iff.1 hv).1
      omega
    obtain ⟨b, hb, hf⟩ := Lib.mapM_at h j j (by simp [hj])
    rw [hv] at hb
    cases hb
    exact hf
  · cases h
/-- A row of things, as it comes in. -/
theorem row_open {α : Type} (good : α → Prop) (cl : α → List Value) (dflt : α) {H : Type} {enc : TypeId × Value → H} {W : World} {base : Nat} {spare : Nat → Bool} {held : Bool} {fuel : Nat} {T e : TypeId} {sz : Nat} {c0 : Value} {x : DataW H × List MemPlace} (hT : Tryd.prog.underlying T = some (.slice e)) (hs : Tryd.prog.cellsOf e = sz)
    (elt : ∀ (fuel : Nat) (A : Addr) (cs : List Value) (y : DataW H × List MemPlace), W.cells? base A sz = some cs → DataW.trod enc Tryd.prog W base spare held fuel e cs = some y → ∃ a : α, A = ⟨A.block, A.off, none⟩ ∧ good a ∧ ∀ (t : Nat) (v : Value), (cl a)[t]? = some v → W.cell? ⟨A.block, A.off + t, none⟩ = some v)
    (h : DataW.trod enc Tryd.prog W base spare held fuel T [c0] = some x) :
    ∃ (ao : Option Addr) (c : Nat) (l : List α), c0 = .slice ao l.length c ∧ l.length ≤ c ∧ c ≤ 9223372036854775807 ∧ (∀ a ∈ l, good a) ∧ (0 < l.length → ∃ g o, ao = some ⟨g, o, none⟩ ∧ ∀ (j : Nat) (a : α), l[j]? = some a → ∀ (t : Nat) (v : Value), (cl a)[t]? = some v → W.cell? ⟨g, o + j * sz + t, none⟩ = some v) := by
  rcases open_slice hT h with ⟨e1, _⟩ | ⟨a, len, cap, m, n', D, Pl, e1, _, hlc, hcm, hm, hx0, hel⟩
  · simp at e1
    subst e1
    exact ⟨none, 0, [], rfl, Nat.le_refl _, by omega, (fun x hx => (by cases hx)), fun h => absurd h (by simp)⟩
  · simp at e1
    subst e1
    rw [hs] at hel
    have hml : len ≤ m := by rw [hm]; split <;> omega
    by_cases hl : 0 < len
    · have ea : a = ⟨a.block, a.off, none⟩ := by
        obtain ⟨cs', hc', ht'⟩ := hel 0 (by omega)
        obtain ⟨_, eA, _⟩ := elt _ _ _ _ hc' ht'
        simpa [Addr.add] using eA
      obtain ⟨lb, lo, s⟩ := a
      obtain rfl : s = none := by simpa using ea
      have key : ∀ i, ∃ y : α, i < len → (good y ∧ ∀ (t : Nat) (v : Value), (cl y)[t]? = some v → W.cell? ⟨lb, lo + i * sz + t, none⟩ = some v) := by
        intro i
        by_cases hi : i < len
        · obtain ⟨cs', hc', ht'⟩ := hel i (by omega)
          rw [Addr.add_lit] at hc'
          obtain ⟨y, _, e2, e3⟩ := elt _ _ _ _ hc' ht'
          exact ⟨y, fun _ => ⟨e2, e3⟩⟩
        · exact ⟨dflt, fun h => absurd h hi⟩
      obtain ⟨f, hf⟩ := Classical.axiomOfChoice key
      refine ⟨some ⟨lb, lo, none⟩, cap, (List.range len).map f, (by simp), (by simpa using hlc), (by unfold maxLen at hcm; omega), fun x hx => ?_, fun _ => ⟨lb, lo, rfl, fun i x hi j z hz => ?_⟩⟩
      · obtain ⟨i, hi, rfl⟩ := List.mem_map.1 hx
        exact (hf i (by simpa using hi)).1
      · obtain ⟨hi', rfl⟩ : i < len ∧ f i = x := by
          rw [List.getElem?_map] at hi
          obtain ⟨i', e1, e2⟩ := Option.map_eq_some_iff.1 hi
          obtain ⟨h1, h2⟩ := List.getElem?_eq_some_iff.1 e1
          simp at h1 h2
          subst h2
          exact ⟨h1, e2⟩
        exact (hf i hi').2 j z hz
    · obtain rfl : len = 0 := by omega
      exact ⟨some a, cap, [], rfl, hlc, (by unfold maxLen at hcm; omega), (fun x hx => (by cases hx)), fun h => absurd h (by simp)⟩
set_option maxRecDepth 100000 in
/-- A row of numbers. -/
theorem ints_open {H : Type} {enc : TypeId × Value → H} {W : World} {base : Nat} {spare : Nat → Bool} {held : Bool} {fuel : Nat} {c0 : Value} {x : DataW H × List MemPlace} (h : DataW.trod enc Tryd.prog W base spare held fuel 47 [c0] = some x) :
    ∃ (ao : Option Addr) (c : Nat) (l : List Int), c0 = .slice ao l.length c ∧ ArA W ao c l := by
  obtain ⟨ao, c, l, e, h1, h2, _, h3⟩ := row_open (fun _ : Int => True) (fun y => [.int .i64 y]) 0 Tryd.underlying47 cells3 (fun fuel A cs y hc ht => by
    obtain ⟨hl, hk⟩ := cells_at hc
    obtain ⟨k, e0, _, _⟩ := DataW.trod_int Tryd.underlying3 ht
    subst e0
    have c0 := hk 0 _ rfl
    have c1 : W.cell? A = some (.int .i64 k) := by simpa [Addr.add] using c0
    have eA := spot_none c1
    refine ⟨k, eA, trivial, fun t v hv => ?_⟩
    match t, hv with
    | 0, hv => cases hv; rw [Nat.add_zero, ← eA]; exact c1
    | t + 1, hv => simp at hv) h
  refine ⟨ao, c, l, e, h1, h2, fun hl => ?_⟩
  obtain ⟨g, o, e1, hc⟩ := h3 hl
  exact ⟨g, o, e1, fun j y hj => by simpa using hc j y hj 0 _ rfl⟩
end
end Go.Proofs.YtdppoblbenbafaaDoor
