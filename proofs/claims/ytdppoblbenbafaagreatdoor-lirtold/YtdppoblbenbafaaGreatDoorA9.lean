/- The little program's block is right. -/
import Derived.Test.YtdppoblbenbafaaGreatDoorA6
import Derived.Test.YtdppoblbenbafaaGreatDoorA7
import Derived.Test.YtdppoblbenbafaaGreatDoorA8
namespace Go.Proofs.YtdppoblbenbafaaGreatDoor
open Go.RowKit Go.Shelf
/-- The cells of the three instructions. -/
def insL (z : Nat) : List Value := [.int .i64 1, .int .i64 0, .int .i64 0, .int .i64 0, .int .i64 7, .string ⟨#[]⟩, .slice none 0 0, .int .i64 0, .int .i64 0, .int .i64 7, .int .i64 (-1), .int .i64 0, .int .i64 0, .int .i64 0, .string ⟨#[114, 116, 46, 112, 114, 105, 110, 116]⟩, .slice (some ⟨z, 0, none⟩) 1 1, .int .i64 0, .int .i64 0, .int .i64 10, .int .i64 0, .int .i64 (-1), .int .i64 0, .int .i64 0, .string ⟨#[]⟩, .slice none 0 0, .int .i64 0, .int .i64 0]
/-- They lie at x; the call's arguments at z. -/
structure Ib (w : World) (x z : Nat) : Prop where
  at_ : ∀ j v, (insL z)[j]? = some v → w.cell? ⟨x, j, none⟩ = some v
  ar : w.cell? ⟨z, 0, none⟩ = some (.int .i64 0)
  lx : x < w.heap.size
  lz : z < w.heap.size
theorem Ib.below {w w1 : World} {x z : Nat} (h : Ib w x z) (hb : Below w.heap.size w w1) : Ib w1 x z :=
  ⟨fun j v hj => by rw [hb.cell (p := ⟨x, j, none⟩) h.lx]; exact h.at_ j v hj, by rw [hb.cell (p := ⟨z, 0, none⟩) h.lz]; exact h.ar, Nat.lt_of_lt_of_le h.lx hb.size, Nat.lt_of_lt_of_le h.lz hb.size⟩
theorem acell {W : World} {b o : Nat} {v : Value} (hb : b < W.heap.size) (h : W.cell? ⟨b, o, none⟩ = some v) : ∀ obj, (W.alloc obj).cell? ⟨b, o, none⟩ = some v := fun obj => by
  rw [((Below.refl W.heap.size W).alloc (Nat.le_refl _) obj).cell (p := ⟨b, o, none⟩) hb]
  exact h
theorem end_t (n : Int) (w : World) (h : 8 ≤ n ∧ n ≤ 11) : Calls Tryz.prog 90 #[.int .i64 n] w fun e w' => e = .returned (.bool true) ∧ w' = w := by
  have t := isEnd58 n w
  rw [show endB n = true by simp [endB]; omega] at t
  exact t
theorem end_f (n : Int) (w : World) (h : n < 8) : Calls Tryz.prog 90 #[.int .i64 n] w fun e w' => e = .returned (.bool false) ∧ w' = w := by
  have t := isEnd58 n w
  rw [show endB n = false by simp [endB]; omega] at t
  exact t
theorem wit_t (n a b : Int) (w : World) (h : a ≤ n ∧ n ≤ b) : Calls Tryz.prog 60 #[.int .i64 n, .int .i64 a, .int .i64 b] w fun e w' => e = .returned (.bool true) ∧ w' = w := by
  have t := within47 n a b w
  rw [show witB n a b = true by simp [witB]; omega] at t
  exact t
set_option maxRecDepth 20000 in
set_option maxHeartbeats 4000000 in
theorem block48 (x y z a b : Nat) (w : World) (hT : Tf w) (hI : Ib w x z) : Calls Tryz.prog 61 #[.agg #[.map (some a), .map (some b)], fv y, .agg #[.slice (some ⟨x, 0, none⟩) 3 3]] w fun e w' => e = .returned (.bool true) ∧ G w w' := by
  have HT : Hid (Tf w) := hT
  have HI : Hid (Ib w x z) := hI
  clear hT hI
  have HW : Hid (∃ W, W = ((w.alloc (.cells #[.map (some a), .map (some b)] 60)).alloc (.cells #[.string ⟨#[109, 97, 105, 110]⟩, .int .i64 0, .int .i64 1, .int .i64 0, .slice (some ⟨y, 0, none⟩) 1 1] 27)).alloc (.cells #[.slice (some ⟨x, 0, none⟩) 3 3] 49) ∧ G w W ∧ w.heap.size + 1 + 1 < W.heap.size ∧ W.cell? ⟨w.heap.size, 0, none⟩ = some (.map (some a)) ∧ W.cell? ⟨w.heap.size, 1, none⟩ = some (.map (some b)) ∧ W.cell? ⟨w.heap.size + 1, 0, none⟩ = some (.string ⟨#[109, 97, 105, 110]⟩) ∧ W.cell? ⟨w.heap.size + 1, 1, none⟩ = some (.int .i64 0) ∧ W.cell? ⟨w.heap.size + 1, 2, none⟩ = some (.int .i64 1) ∧ W.cell? ⟨w.heap.size + 1, 3, none⟩ = some (.int .i64 0) ∧ W.cell? ⟨w.heap.size + 1, 4, none⟩ = some (.slice (some ⟨y, 0, none⟩) 1 1) ∧ W.cell? ⟨w.heap.size + 1 + 1, 0, none⟩ = some (.slice (some ⟨x, 0, none⟩) 3 3)) := ⟨_, rfl, (((G.refl _).alloc _).alloc _).alloc _, by simp, by go_simp, by go_simp, by go_simp, by go_simp, by go_simp, by go_simp, by go_simp, by go_simp⟩
  unfold fv at *
  go_enter Tryz.func61, Tryz.ntmps61
  go_wp2_with (first | (go_at_call 60; refine (wit_t 3 1 4096 _ (by omega)).mono ?_; rintro e w' ⟨rfl, rfl⟩))
  obtain ⟨W, hW, hG, hWl, c0, c1, c2, c3, c4, c5, c6, c7⟩ := HW.out
  rw [← hW]
  have HG : Hid (G w W) := hG
  clear hW hG HW
  go_loopw [19] (fun i wx => ∃ k : Nat, k ≤ 3 ∧ i = .int .i64 k ∧ G W wx) (fun i _ => 3 - (intOf i).toNat)
  case atStart => exact ⟨0, by omega, rfl, G.refl _⟩
  case round =>
    obtain ⟨k, hk, rfl, hGx⟩ := hrel
    have HX : Hid (G W wr) := hGx
    have HB := hGx.below
    have HT' : Hid (Tf wr) := HT.out.below (HG.out.trans hGx).below
    have HI' : Hid (Ib wr x z) := HI.out.below (HG.out.trans hGx).below
    obtain ⟨kc, kf⟩ := bcell HB
    replace c0 := (kc _ _ (by omega)).trans c0
    replace c1 := (kc _ _ (by omega)).trans c1
    replace c2 := (kc _ _ (by omega)).trans c2
    replace c3 := (kc _ _ (by omega)).trans c3
    replace c4 := (kc _ _ (by omega)).trans c4
    replace c5 := (kc _ _ (by omega)).trans c5
    replace c6 := (kc _ _ (by omega)).trans c6
    replace c7 := (kc _ _ (by omega)).trans c7
    have hwl : w.heap.size + 1 + 1 < wr.heap.size := Nat.lt_of_lt_of_le hWl HB.size
    have hxl : x < wr.heap.size := HI'.out.lx
    clear kc kf HB hGx hWl
    have f0 := acell (by omega) c0
    have f1 := acell (by omega) c1
    have f2 := acell (by omega) c2
    have f3 := acell (by omega) c3
    have f4 := acell (by omega) c4
    have f5 := acell (by omega) c5
    have f6 := acell (by omega) c6
    rcases (by omega : k = 0 ∨ k = 1 ∨ k = 2 ∨ k = 3) with rfl | rfl | rfl | rfl
    · have d0 := HI'.out.at_ 0 _ rfl
      have d1 := HI'.out.at_ 1 _ rfl
      have d2 := HI'.out.at_ 2 _ rfl
      have d3 := HI'.out.at_ 3 _ rfl
      have d4 := HI'.out.at_ 4 _ rfl
      have d5 := HI'.out.at_ 5 _ rfl
      have d6 := HI'.out.at_ 6 _ rfl
      have d7 := HI'.out.at_ 7 _ rfl
      have d8 := HI'.out.at_ 8 _ rfl
      have hE := fun w => end_f 1 w (by omega)
      have hC : Hid (∀ W', G wr W' → Calls Tryz.prog 91 #[.agg #[.map (some a), .map (some b)], .agg #[.string ⟨#[109, 97, 105, 110]⟩, .int .i64 0, .int .i64 1, .int .i64 0, .slice (some ⟨y, 0, none⟩) 1 1], .agg #[.int .i64 1, .int .i64 0, .int .i64 0, .int .i64 0, .int .i64 7, .string ⟨#[]⟩, .slice none 0 0, .int .i64 0, .int .i64 0]] W' fun e w' => e = .returned (.bool true) ∧ G W' w') := fun W' hW' => ins_0 y a b W' (HT'.out.below hW'.below)
      go_wp2_with (first | (go_at_call 90; refine (hE _).mono ?_; rintro e w' ⟨rfl, rfl⟩) | (go_at_call 91; refine (hC.out _ ((G.refl _).alloc _)).mono ?_; rintro e w1 ⟨rfl, hg⟩))
      exact ⟨⟨1, by omega, rfl, (HX.out.alloc _).trans hg⟩, by simp [intOf]⟩
    · have d0 := HI'.out.at_ 9 _ rfl
      have d1 := HI'.out.at_ 10 _ rfl
      have d2 := HI'.out.at_ 11 _ rfl
      have d3 := HI'.out.at_ 12 _ rfl
      have d4 := HI'.out.at_ 13 _ rfl
      have d5 := HI'.out.at_ 14 _ rfl
      have d6 := HI'.out.at_ 15 _ rfl
      have d7 := HI'.out.at_ 16 _ rfl
      have d8 := HI'.out.at_ 17 _ rfl
      have hE := fun w => end_f 7 w (by omega)
      have hC : Hid (∀ W', G wr W' → Calls Tryz.prog 91 #[.agg #[.map (some a), .map (some b)], .agg #[.string ⟨#[109, 97, 105, 110]⟩, .int .i64 0, .int .i64 1, .int .i64 0, .slice (some ⟨y, 0, none⟩) 1 1], .agg #[.int .i64 7, .int .i64 (-1), .int .i64 0, .int .i64 0, .int .i64 0, .string ⟨#[114, 116, 46, 112, 114, 105, 110, 116]⟩, .slice (some ⟨z, 0, none⟩) 1 1, .int .i64 0, .int .i64 0]] W' fun e w' => e = .returned (.bool true) ∧ G W' w') := fun W' hW' => ins_1 y z a b W' (HT'.out.below hW'.below) (HI'.out.below hW'.below).ar (HI'.out.below hW'.below).lz
      go_wp2_with (first | (go_at_call 90; refine (hE _).mono ?_; rintro e w' ⟨rfl, rfl⟩) | (go_at_call 91; refine (hC.out _ ((G.refl _).alloc _)).mono ?_; rintro e w1 ⟨rfl, hg⟩))
      exact ⟨⟨2, by omega, rfl, (HX.out.alloc _).trans hg⟩, by simp [intOf]⟩
    · have d0 := HI'.out.at_ 18 _ rfl
      have d1 := HI'.out.at_ 19 _ rfl
      have d2 := HI'.out.at_ 20 _ rfl
      have d3 := HI'.out.at_ 21 _ rfl
      have d4 := HI'.out.at_ 22 _ rfl
      have d5 := HI'.out.at_ 23 _ rfl
      have d6 := HI'.out.at_ 24 _ rfl
      have d7 := HI'.out.at_ 25 _ rfl
      have d8 := HI'.out.at_ 26 _ rfl
      have hE := fun w => end_t 10 w (by omega)
      have hC : Hid (∀ W', G wr W' → Calls Tryz.prog 91 #[.agg #[.map (some a), .map (some b)], .agg #[.string ⟨#[109, 97, 105, 110]⟩, .int .i64 0, .int .i64 1, .int .i64 0, .slice (some ⟨y, 0, none⟩) 1 1], .agg #[.int .i64 10, .int .i64 0, .int .i64 (-1), .int .i64 0, .int .i64 0, .string ⟨#[]⟩, .slice none 0 0, .int .i64 0, .int .i64 0]] W' fun e w' => e = .returned (.bool true) ∧ G W' w') := fun W' hW' => ins_2 y a b W' (HT'.out.below hW'.below)
      go_wp2_with (first | (go_at_call 90; refine (hE _).mono ?_; rintro e w' ⟨rfl, rfl⟩) | (go_at_call 91; refine (hC.out _ ((G.refl _).alloc _)).mono ?_; rintro e w1 ⟨rfl, hg⟩))
      exact ⟨⟨3, by omega, rfl, (HX.out.alloc _).trans hg⟩, by simp [intOf]⟩
    · go_wp2
      go_ret
      exact ⟨rfl, HG.out.trans HX.out⟩
end Go.Proofs.YtdppoblbenbafaaGreatDoor
