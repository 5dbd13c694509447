/- The runtime's print, called. -/
import Derived.Test.YthkkoppnenfnfaaDoorC4
import Derived.Deep.RegionHeld3
namespace Go.Proofs.YthkkoppnenfnfaaDoor
open Go.RowKit Go.Shelf
theorem make1 (w : World) : (Instr.makeSlice 76 (.int .i64 1) (.int .i64 1)).run Tryd.prog w = .ok (.slice (some ⟨w.heap.size, 0, none⟩) 1 1) (w.alloc (.cells #[.int .i64 0] 2)) := by kernel_rfl
set_option maxRecDepth 20000 in
set_option maxHeartbeats 2000000 in
theorem call43 (R C Q ca x z y : Nat) (at_ : Int) (f : List Value) (w : World) (hC : Cl w C [.slice (some ⟨y, 0, none⟩) 1 1, .slice (some ⟨Q, 0, none⟩) 1 1, .int .i64 65536, .int .i64 0, .int .i64 0, .int .i64 at_, .int .i64 (-1)]) (hQ : Cl w Q [.int .i64 7]) (hR : Cl w R f) (hf : f.length = 13) (h3 : f[3]? = some (.slice (some ⟨C, 0, none⟩) 1 ca)) (h11 : f[11]? = some (.slice none 0 0)) (hI : Ib w x z) (hxR : x ≠ R) : Calls Tryd.prog 43 #[.pointer (some ⟨R, 0, none⟩), .pointer (some ⟨x, 9, none⟩)] w fun e w' => e = .returned (.tuple #[]) ∧ ∃ g cap, Onl (fun b => b = R) w w' ∧ Cl w' R (f.set 11 (.slice (some ⟨g, 0, none⟩) 2 cap)) ∧ Cl w' g [.int .u8 55, .int .u8 10] ∧ w.heap.size ≤ g := by
  have hI40 : Hid (Calls Tryd.prog 40 #[.pointer (some ⟨R, 0, none⟩)] w fun e w' => e = .returned (.pointer (some ⟨C, 0, none⟩)) ∧ ∃ n, w' = w.drewN n) := innermost40 R C ca w (hR.cell h3)
  have HC : Hid (Cl w C [.slice (some ⟨y, 0, none⟩) 1 1, .slice (some ⟨Q, 0, none⟩) 1 1, .int .i64 65536, .int .i64 0, .int .i64 0, .int .i64 at_, .int .i64 (-1)]) := hC
  have HQ : Hid (Cl w Q [.int .i64 7]) := hQ
  have HR : Hid (Cl w R f) := hR
  have HI : Hid (Ib w x z) := hI
  have HF : Hid (f.length = 13) := hf
  have HX : Hid (x ≠ R) := hxR
  have H11 : Hid (f[11]? = some (.slice none 0 0)) := h11
  have HPr : Hid (∀ W, Below w.heap.size w W → Calls Tryd.prog 51 #[.pointer (some ⟨R, 0, none⟩), .int .i64 7] W fun e w' => e = .returned (.int .i64 0) ∧ ∃ g cap w4, Below w.heap.size w w4 ∧ w' = w4.setCell ⟨R, 11, none⟩ (.slice (some ⟨g, 0, none⟩) 2 cap) ∧ Cl w4 g [.int .u8 55, .int .u8 10] ∧ w.heap.size ≤ g) := fun W hW => (print51 R W ((hR.below hW).cell h11) (hR.below hW).lt ((hR.below hW).fz 11)).mono fun e w' ⟨h1, g, cap, w4, h2, h3, h4, h5⟩ => ⟨h1, g, cap, w4, hW.trans (h2.mono hW.size), h3, h4, Nat.le_trans hW.size h5⟩
  clear hC hQ hR hf h3 h11 hI hxR
  go_enter Tryd.func43, Tryd.ntmps43
  go_wp2_with fail
  refine hI40.out.mono ?_
  rintro e w1 ⟨rfl, n1, hw1⟩
  have hb1 : Below w.heap.size w w1 := by rw [hw1]; exact below_drewN (Below.refl _ _) n1
  have HB1 : Hid (Below w.heap.size w w1) := hb1
  have hC1 := HC.out.below hb1
  have hQ1 := HQ.out.below hb1
  have hI1 := HI.out.below hb1
  have k1 := hC1.cell (j := 1) rfl
  have k1' := acell hC1.lt k1
  have q0 := hQ1.cell (j := 0) rfl
  have q0' := acell hQ1.lt q0
  have i1 := hI1.at_ 10 _ rfl
  have i5 := hI1.at_ 14 _ rfl
  have i6 := hI1.at_ 15 _ rfl
  have i1' := acell hI1.lx i1
  have i5' := acell hI1.lx i5
  have i6' := acell hI1.lx i6
  have a0 := hI1.ar
  have a0' := acell hI1.lz a0
  have e1 : ¬ x = w1.heap.size := by have := hI1.lx; omega
  have e2 : ¬ w1.heap.size = x := by have := hI1.lx; omega
  have e3 : ¬ C = w1.heap.size := by have := hC1.lt; omega
  have e4 : ¬ w1.heap.size = C := by have := hC1.lt; omega
  have mk := make1 w1
  clear hw1 hb1 hC1 hQ1 hI1
  go_wp2
  refine wp_loop_rounds 2 ?_
  rw [rounds_succ]
  go_wp2
  rw [rounds_succ]
  go_wp2
  go_region_with (first | (go_at_call 51; refine (HPr.out _ (by first | exact (HB1.out.alloc HB1.out.size _).drew | exact (HB1.out.alloc HB1.out.size _))).mono ?_; rintro e w3 ⟨rfl, g, cap, w4, hb4, hw3, hcl, hge⟩; have dx : w3.cell? ⟨x, 10, none⟩ = some (.int .i64 (-1)) := (by rw [hw3, World.cell?_of_block ((grown_set w4 R 11 _).block x (HI.out.below hb4).lx (fun e => HX.out (by cases e; rfl)))]; exact (HI.out.below hb4).at_ 10 _ rfl); have HE : Hid (Onl (fun b => b = R) w w3 ∧ Cl w3 R (f.set 11 (.slice (some ⟨g, 0, none⟩) 2 cap)) ∧ Cl w3 g [.int .u8 55, .int .u8 10] ∧ w.heap.size ≤ g) := (by rw [hw3]; exact ⟨(Onl.of_below hb4).set (S := fun b => b = R) (b := R) rfl, (HR.out.below hb4).set (by have := HF.out; omega) _, hcl.other (fun e => by have := HR.out.lt; omega), hge⟩); clear hb4 hw3 hcl hge) | (go_at_call 50; refine (answer_none R 0 _).mono ?_; rintro e w5 ⟨rfl, rfl⟩))
  all_goals (
    go_wp2
    go_returns
    exact ⟨rfl, g, cap, HE.out⟩)
end Go.Proofs.YthkkoppnenfnfaaDoor
