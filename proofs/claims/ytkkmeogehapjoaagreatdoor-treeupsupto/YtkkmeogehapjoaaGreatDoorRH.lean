/- Parents and depth: the document's own, and the program's of a tree that is not right. -/
import Derived.Test.YtkkmeogehapjoaaGreatDoorRG
import Derived.Test.YtkkmeogehapjoaaGreatDoorY10
namespace Go.Proofs.YtkkmeogehapjoaaGreatDoor
open Go.RowKit Go.Shelf
set_option maxRecDepth 100000 in
set_option maxHeartbeats 4000000 in
theorem depth_wrong (l : List Nd) (ao : Option Addr) (c : Nat) (w : World) (hT : Tm w) (hl : NdA w ao c l) (hr : rightB l = false) : Calls Tryz.prog 23 #[.agg #[.slice ao l.length c]] w fun e w' => e = .returned (.tuple #[.int .i64 0, .int .i64 3]) ∧ Below w.heap.size w w' := by
  have H11 : Hid (∀ W, Below w.heap.size w W → Calls Tryz.prog 11 #[.agg #[.slice ao l.length c]] W fun e w' => e = .returned (.int .i64 3) ∧ Below W.heap.size W w') := fun W hW => by
    have t := check11 l ao c W (hT.below hW) (hl.below hW)
    rw [if_neg (by simp [hr])] at t
    exact t
  generalize l.length = n at *
  clear hT hl hr
  go_enter Tryz.func23, Tryz.ntmps23
  go_wp2_with fail
  refine (H11.out _ (below_cells _ _ _)).mono ?_
  rintro e w1 ⟨rfl, hb⟩
  have HB1 : Hid (Below w.heap.size w w1) := (below_cells w _ _).trans (hb.mono (by simp))
  clear hb H11
  go_wp2
  go_ret2
  exact ⟨rfl, HB1.out⟩
set_option maxRecDepth 100000 in
set_option maxHeartbeats 4000000 in
theorem rparents_wrong (l : List Nd) (ao : Option Addr) (c : Nat) (w : World) (hl : NdA w ao c l) (hr : rightB l = false) : Calls Tryz.prog 22 #[.agg #[.slice ao l.length c]] w fun e w' => e = .returned (.tuple #[.slice none 0 0, .int .i64 3]) ∧ Below w.heap.size w w' := by
  have H28 : Hid (∀ W, Below w.heap.size w W → Calls Tryz.prog 28 #[.agg #[.slice ao l.length c]] W fun e w' => e = .returned (.bool false) ∧ Below W.heap.size W w') := fun W hW => by
    have t := right28 l ao c W (hl.below hW)
    rw [hr] at t
    exact t
  generalize l.length = n at *
  clear hl hr
  go_enter Tryz.func22, Tryz.ntmps22
  go_wp2_with fail
  refine (H28.out _ (below_cells _ _ _)).mono ?_
  rintro e w1 ⟨rfl, hb⟩
  have HB1 : Hid (Below w.heap.size w w1) := (below_cells w _ _).trans (hb.mono (by simp))
  clear hb H28
  go_wp2
  go_ret2
  exact ⟨rfl, HB1.out⟩
set_option maxRecDepth 100000 in
set_option maxHeartbeats 4000000 in
theorem rdepth_wrong (l : List Nd) (ao : Option Addr) (c : Nat) (w : World) (hl : NdA w ao c l) (hr : rightB l = false) : Calls Tryz.prog 24 #[.agg #[.slice ao l.length c]] w fun e w' => e = .returned (.tuple #[.int .i64 0, .int .i64 3]) ∧ Below w.heap.size w w' := by
  have H28 : Hid (∀ W, Below w.heap.size w W → Calls Tryz.prog 28 #[.agg #[.slice ao l.length c]] W fun e w' => e = .returned (.bool false) ∧ Below W.heap.size W w') := fun W hW => by
    have t := right28 l ao c W (hl.below hW)
    rw [hr] at t
    exact t
  generalize l.length = n at *
  clear hl hr
  go_enter Tryz.func24, Tryz.ntmps24
  go_wp2_with fail
  refine (H28.out _ (below_cells _ _ _)).mono ?_
  rintro e w1 ⟨rfl, hb⟩
  have HB1 : Hid (Below w.heap.size w w1) := (below_cells w _ _).trans (hb.mono (by simp))
  clear hb H28
  go_wp2
  go_ret2
  exact ⟨rfl, HB1.out⟩
theorem par42 (l : List Nd) (ao : Option Addr) (c : Nat) (hr : rightB l = true) (p : List Int) (hp : parR l = some p) (W : World) (hl : NdA W ao c l) : Calls Tryz.prog 42 #[.agg #[.slice ao l.length c]] W fun e w' => Below W.heap.size W w' ∧ ∃ g, W.heap.size ≤ g ∧ Blk w' g p ∧ e = .returned (.tuple #[.slice (some ⟨g, 0, none⟩) l.length l.length, .bool true]) := by
  have h01 := right_len hr
  obtain ⟨p', h1, h2⟩ := right_par hr
  rw [hp] at h1
  cases h1
  refine (parents42 l ao c W hl (par_kin hp) h01.1 h01.2).mono ?_
  rintro e w' ⟨hb, hq⟩
  rw [hp] at hq
  simp only [h2] at hq
  exact ⟨hb, hq⟩
set_option maxRecDepth 100000 in
set_option maxHeartbeats 4000000 in
theorem rparents_right (l : List Nd) (ao : Option Addr) (c : Nat) (w : World) (hl : NdA w ao c l) (hr : rightB l = true) (p : List Int) (hp : parR l = some p) : Calls Tryz.prog 22 #[.agg #[.slice ao l.length c]] w fun e w' => Below w.heap.size w w' ∧ ∃ g, w.heap.size ≤ g ∧ Blk w' g p ∧ e = .returned (.tuple #[.slice (some ⟨g, 0, none⟩) l.length l.length, .int .i64 0]) := by
  have H28 : Hid (∀ W, Below w.heap.size w W → Calls Tryz.prog 28 #[.agg #[.slice ao l.length c]] W fun e w' => e = .returned (.bool true) ∧ Below W.heap.size W w') := fun W hW => by
    have t := right28 l ao c W (hl.below hW)
    rw [hr] at t
    exact t
  have H42 : Hid (∀ W, Below w.heap.size w W → Calls Tryz.prog 42 #[.agg #[.slice ao l.length c]] W fun e w' => Below W.heap.size W w' ∧ ∃ g, W.heap.size ≤ g ∧ Blk w' g p ∧ e = .returned (.tuple #[.slice (some ⟨g, 0, none⟩) l.length l.length, .bool true])) := fun W hW => par42 l ao c hr p hp W (hl.below hW)
  generalize l.length = n at *
  clear hl hr hp
  go_enter Tryz.func22, Tryz.ntmps22
  go_wp2_with fail
  refine (H28.out _ (below_cells _ _ _)).mono ?_
  rintro e w1 ⟨rfl, hb⟩
  have HB1 : Hid (Below w.heap.size w w1) := (below_cells w _ _).trans (hb.mono (by simp))
  have d0 := (bcell hb).1 w.heap.size 0 (by simp)
  simp at d0
  clear hb H28
  go_wp2_with fail
  refine (H42.out _ HB1.out).mono ?_
  rintro e w2 ⟨hb, g, hg, hbk, rfl⟩
  have HB2 : Hid (Below w.heap.size w w2) := HB1.out.trans (hb.mono HB1.out.size)
  have HK : Hid (w.heap.size ≤ g ∧ Blk w2 g p) := ⟨by have := HB1.out.size; omega, hbk⟩
  clear hb hbk hg d0
  go_wp2
  go_ret2
  exact ⟨HB2.out, g, HK.out.1, HK.out.2, rfl⟩
set_option maxRecDepth 100000 in
set_option maxHeartbeats 4000000 in
theorem rdepth_right (l : List Nd) (ao : Option Addr) (c : Nat) (w : World) (hl : NdA w ao c l) (hr : rightB l = true) (p : List Int) (hp : parR l = some p) : Calls Tryz.prog 24 #[.agg #[.slice ao l.length c]] w fun e w' => e = .returned (.tuple #[.int .i64 (Lib.maxOf (depR p)), .int .i64 0]) ∧ Below w.heap.size w w' := by
  have h01 := right_len hr
  obtain ⟨p', hp1, hcn⟩ := right_par hr
  rw [hp] at hp1
  cases hp1
  have H28 : Hid (∀ W, Below w.heap.size w W → Calls Tryz.prog 28 #[.agg #[.slice ao l.length c]] W fun e w' => e = .returned (.bool true) ∧ Below W.heap.size W w') := fun W hW => by
    have t := right28 l ao c W (hl.below hW)
    rw [hr] at t
    exact t
  have H42 : Hid (∀ W, Below w.heap.size w W → Calls Tryz.prog 42 #[.agg #[.slice ao l.length c]] W fun e w' => Below W.heap.size W w' ∧ ∃ g, W.heap.size ≤ g ∧ Blk w' g p ∧ e = .returned (.tuple #[.slice (some ⟨g, 0, none⟩) l.length l.length, .bool true])) := fun W hW => par42 l ao c hr p hp W (hl.below hW)
  have H44 : Hid (∀ W tv g, Blk W g p → Calls Tryz.prog 44 #[.agg #[tv], .slice (some ⟨g, 0, none⟩) l.length l.length] W fun e w' => e = .returned (.int .i64 (Lib.maxOf (depR p))) ∧ Below W.heap.size W w') := fun W tv g hg => deep44 p tv g l.length W hg (parR_some hp).1 h01.1 h01.2 (ups_of hp hcn)
  generalize l.length = n at *
  generalize Lib.maxOf (depR p) = D at *
  clear hl hr hp hcn h01
  go_enter Tryz.func24, Tryz.ntmps24
  go_wp2_with fail
  refine (H28.out _ (below_cells _ _ _)).mono ?_
  rintro e w1 ⟨rfl, hb⟩
  have HB1 : Hid (Below w.heap.size w w1) := (below_cells w _ _).trans (hb.mono (by simp))
  have d0 := (bcell hb).1 w.heap.size 0 (by simp)
  simp at d0
  clear hb H28
  go_wp2_with fail
  refine (H42.out _ HB1.out).mono ?_
  rintro e w2 ⟨hb, g, hg, hbk, rfl⟩
  have HB2 : Hid (Below w.heap.size w w2) := HB1.out.trans (hb.mono HB1.out.size)
  have e0 := ((bcell hb).1 w.heap.size 0 (World.block_lt_of_cell? _ _ d0)).trans d0
  have HK : Hid (Blk w2 g p) := hbk
  clear hb hbk hg d0
  go_wp2_with fail
  refine (H44.out _ _ _ HK.out).mono ?_
  rintro e w3 ⟨rfl, hb⟩
  have HB3 : Hid (Below w.heap.size w w3) := HB2.out.trans (hb.mono HB2.out.size)
  clear hb
  go_wp2
  go_ret2
  exact ⟨rfl, HB3.out⟩
end Go.Proofs.YtkkmeogehapjoaaGreatDoor
