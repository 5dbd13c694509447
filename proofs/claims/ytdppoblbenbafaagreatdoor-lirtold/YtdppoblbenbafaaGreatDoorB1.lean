/- The little program's function is right. -/
import Derived.Test.YtdppoblbenbafaaGreatDoorA9
import Derived.Test.YtdppoblbenbafaaGreatDoorAA
import Derived.Test.YtdppoblbenbafaaGreatDoorO1
namespace Go.Proofs.YtdppoblbenbafaaGreatDoor
open Go.RowKit Go.Shelf
theorem name_main (w : World) : Calls Tryz.prog 59 #[.string ⟨#[109, 97, 105, 110]⟩] w fun e w' => e = .returned (.bool true) ∧ w' = w := nameRight46 ⟨#[109, 97, 105, 110]⟩ w (by decide)
set_option maxRecDepth 20000 in
set_option maxHeartbeats 4000000 in
theorem function38 (x y z a b : Nat) (w : World) (hT : Tf w) (hI : Ib w x z) (hy : w.cell? ⟨y, 0, none⟩ = some (.slice (some ⟨x, 0, none⟩) 3 3)) (hyl : y < w.heap.size) : Calls Tryz.prog 24 #[.agg #[.map (some a), .map (some b)], fv y] w fun e w' => e = .returned (.bool true) ∧ G w w' := by
  have HT : Hid (Tf w) := hT
  have HI : Hid (Ib w x z) := hI
  clear hT hI
  have HW : Hid (∃ W, W = (w.alloc (.cells #[.map (some a), .map (some b)] 60)).alloc (.cells #[.string ⟨#[109, 97, 105, 110]⟩, .int .i64 0, .int .i64 1, .int .i64 0, .slice (some ⟨y, 0, none⟩) 1 1] 27) ∧ G w W ∧ w.heap.size + 1 < W.heap.size ∧ W.cell? ⟨y, 0, none⟩ = some (.slice (some ⟨x, 0, none⟩) 3 3) ∧ W.cell? ⟨w.heap.size, 0, none⟩ = some (.map (some a)) ∧ W.cell? ⟨w.heap.size, 1, none⟩ = some (.map (some b)) ∧ W.cell? ⟨w.heap.size + 1, 0, none⟩ = some (.string ⟨#[109, 97, 105, 110]⟩) ∧ W.cell? ⟨w.heap.size + 1, 1, none⟩ = some (.int .i64 0) ∧ W.cell? ⟨w.heap.size + 1, 2, none⟩ = some (.int .i64 1) ∧ W.cell? ⟨w.heap.size + 1, 3, none⟩ = some (.int .i64 0) ∧ W.cell? ⟨w.heap.size + 1, 4, none⟩ = some (.slice (some ⟨y, 0, none⟩) 1 1)) := ⟨_, rfl, ((G.refl _).alloc _).alloc _, by simp, acell (by simp; omega) (acell hyl hy _) _, by go_simp, by go_simp, by go_simp, by go_simp, by go_simp, by go_simp, by go_simp⟩
  unfold fv at *
  clear hy
  go_enter Tryz.func24, Tryz.ntmps24
  go_wp2_with (first | (go_at_call 59; refine (name_main _).mono ?_; rintro e w' ⟨rfl, rfl⟩) | (go_at_call 60; (first | (with_reducible refine (wit_t 0 0 7 _ (by omega)).mono ?_) | (with_reducible refine (wit_t 1 0 4096 _ (by omega)).mono ?_) | (with_reducible refine (wit_t 0 0 4096 _ (by omega)).mono ?_) | (with_reducible refine (wit_t 1 1 1024 _ (by omega)).mono ?_)); rintro e w' ⟨rfl, rfl⟩))
  obtain ⟨W, hW, hG, hWl, cy, c0, c1, c2, c3, c4, c5, c6⟩ := HW.out
  rw [← hW]
  have HG : Hid (G w W) := hG
  clear hW hG HW
  go_loopw [41] (fun i wx => ∃ k : Nat, k ≤ 1 ∧ i = .int .i64 k ∧ G W wx) (fun i _ => 1 - (intOf i).toNat)
  case atStart => exact ⟨0, by omega, rfl, G.refl _⟩
  case round =>
    obtain ⟨k, hk, rfl, hGx⟩ := hrel
    have HX : Hid (G W wr) := hGx
    have HB := hGx.below
    have HT' : Hid (Tf wr) := HT.out.below (HG.out.trans hGx).below
    have HI' : Hid (Ib wr x z) := HI.out.below (HG.out.trans hGx).below
    have hyw : y < W.heap.size := Nat.lt_of_lt_of_le hyl HG.out.below.size
    obtain ⟨kc, kf⟩ := bcell HB
    replace cy := (kc _ _ hyw).trans cy
    replace c0 := (kc _ _ (by omega)).trans c0
    replace c1 := (kc _ _ (by omega)).trans c1
    replace c2 := (kc _ _ (by omega)).trans c2
    replace c3 := (kc _ _ (by omega)).trans c3
    replace c4 := (kc _ _ (by omega)).trans c4
    replace c5 := (kc _ _ (by omega)).trans c5
    replace c6 := (kc _ _ (by omega)).trans c6
    have hwl : w.heap.size + 1 < wr.heap.size := Nat.lt_of_lt_of_le hWl HB.size
    clear kc kf HB hGx hWl hyw
    have f0 := acell (by omega) c0
    have f1 := acell (by omega) c1
    have f2 := acell (by omega) c2
    have f3 := acell (by omega) c3
    have f4 := acell (by omega) c4
    have f5 := acell (by omega) c5
    have f6 := acell (by omega) c6
    rcases (by omega : k = 0 ∨ k = 1) with rfl | rfl
    · have hC : Hid (∀ W', G wr W' → Calls Tryz.prog 61 #[.agg #[.map (some a), .map (some b)], .agg #[.string ⟨#[109, 97, 105, 110]⟩, .int .i64 0, .int .i64 1, .int .i64 0, .slice (some ⟨y, 0, none⟩) 1 1], .agg #[.slice (some ⟨x, 0, none⟩) 3 3]] W' fun e w' => e = .returned (.bool true) ∧ G W' w') := fun W' hW' => block48 x y z a b W' (HT'.out.below hW'.below) (HI'.out.below hW'.below)
      go_wp2_with (first | (go_at_call 61; refine (hC.out _ ((G.refl _).alloc _)).mono ?_; rintro e w1 ⟨rfl, hg⟩))
      exact ⟨⟨1, by omega, rfl, (HX.out.alloc _).trans hg⟩, by simp [intOf]⟩
    · go_wp2
      go_ret
      exact ⟨rfl, HG.out.trans HX.out⟩
end Go.Proofs.YtdppoblbenbafaaGreatDoor
