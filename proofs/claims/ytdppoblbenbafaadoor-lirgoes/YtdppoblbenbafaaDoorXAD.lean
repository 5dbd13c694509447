/- The little program's block is right. The little program's function is right. The little program is right. Who may be called, and an instruction's name and arguments. -/
import Derived.Test.YtdppoblbenbafaaDoorXAB
import Derived.Test.YtdppoblbenbafaaDoorXAC
import Derived.Test.YtdppoblbenbafaaDoorXAA
import Derived.Test.YtdppoblbenbafaaDoorO1
import Derived.Laws.Cover3
namespace Go.Proofs.YtdppoblbenbafaaDoor
section
open Go.RowKit Go.Shelf
/-- The cells of the three instructions. -/
def insL (z : Nat) : List Value := [.int .i64 1, .int .i64 0, .int .i64 0, .int .i64 0, .int .i64 7, .string ⟨#[]⟩, .slice none 0 0, .int .i64 0, .int .i64 0, .int .i64 7, .int .i64 (-1), .int .i64 0, .int .i64 0, .int .i64 0, .string ⟨#[114, 116, 46, 112, 114, 105, 110, 116]⟩, .slice (some ⟨z, 0, none⟩) 1 1, .int .i64 0, .int .i64 0, .int .i64 10, .int .i64 0, .int .i64 (-1), .int .i64 0, .int .i64 0, .string ⟨#[]⟩, .slice none 0 0, .int .i64 0, .int .i64 0]
/-- They lie at x; the call's arguments at z. -/
structure Ib (w : World) (x z : Nat) : Prop where
  at_ : ∀ j v, (insL z)[j]? = some v → w.cell? ⟨x, j, none⟩ = some v
  ar : w.cell? ⟨z, 0, none⟩ = some (.int .i64 0)
  lx : x < w.heap.size
  lz : z < w.heap.size
theorem Ib.below {w w1 : World} {x z : Nat} (h : Ib w x z) (hb : Below w.heap.size w w1) : Ib w1 x z :=
  ⟨fun j v hj => by rw [hb.cell (p := ⟨x, j, none⟩) h.lx]; exact h.at_ j v hj, by rw [hb.cell (p := ⟨z, 0, none⟩) h.lz]; exact h.ar, Nat.lt_of_lt_of_le h.lx hb.size, Nat.lt_of_lt_of_le h.lz hb.size⟩
theorem acell {W : World} {b o : Nat} {v : Value} (hb : b < W.heap.size) (h : W.cell? ⟨b, o, none⟩ = some v) : ∀ obj, (W.alloc obj).cell? ⟨b, o, none⟩ = some v := fun obj => by
  rw [((Below.refl W.heap.size W).alloc (Nat.le_refl _) obj).cell (p := ⟨b, o, none⟩) hb]
  exact h
theorem end_t (n : Int) (w : World) (h : 8 ≤ n ∧ n ≤ 11) : Calls Tryd.prog 61 #[.int .i64 n] w fun e w' => e = .returned (.bool true) ∧ w' = w := by
  have t := isEnd58 n w
  rw [show endB n = true by simp [endB]; omega] at t
  exact t
theorem end_f (n : Int) (w : World) (h : n < 8) : Calls Tryd.prog 61 #[.int .i64 n] w fun e w' => e = .returned (.bool false) ∧ w' = w := by
  have t := isEnd58 n w
  rw [show endB n = false by simp [endB]; omega] at t
  exact t
theorem wit_t (n a b : Int) (w : World) (h : a ≤ n ∧ n ≤ b) : Calls Tryd.prog 48 #[.int .i64 n, .int .i64 a, .int .i64 b] w fun e w' => e = .returned (.bool true) ∧ w' = w := by
  have t := within47 n a b w
  rw [show witB n a b = true by simp [witB]; omega] at t
  exact t
set_option maxRecDepth 20000 in
set_option maxHeartbeats 4000000 in
theorem block48 (x y z a b : Nat) (w : World) (hT : Tf w) (hI : Ib w x z) : Calls Tryd.prog 49 #[.agg #[.map (some a), .map (some b)], fv y, .agg #[.slice (some ⟨x, 0, none⟩) 3 3]] w fun e w' => e = .returned (.bool true) ∧ G w w' := by
  have HT : Hid (Tf w) := hT
  have HI : Hid (Ib w x z) := hI
  clear hT hI
  have HW : Hid (∃ W, W = ((w.alloc (.cells #[.map (some a), .map (some b)] 68)).alloc (.cells #[.string ⟨#[109, 97, 105, 110]⟩, .int .i64 0, .int .i64 1, .int .i64 0, .slice (some ⟨y, 0, none⟩) 1 1] 43)).alloc (.cells #[.slice (some ⟨x, 0, none⟩) 3 3] 46) ∧ G w W ∧ w.heap.size + 1 + 1 < W.heap.size ∧ W.cell? ⟨w.heap.size, 0, none⟩ = some (.map (some a)) ∧ W.cell? ⟨w.heap.size, 1, none⟩ = some (.map (some b)) ∧ W.cell? ⟨w.heap.size + 1, 0, none⟩ = some (.string ⟨#[109, 97, 105, 110]⟩) ∧ W.cell? ⟨w.heap.size + 1, 1, none⟩ = some (.int .i64 0) ∧ W.cell? ⟨w.heap.size + 1, 2, none⟩ = some (.int .i64 1) ∧ W.cell? ⟨w.heap.size + 1, 3, none⟩ = some (.int .i64 0) ∧ W.cell? ⟨w.heap.size + 1, 4, none⟩ = some (.slice (some ⟨y, 0, none⟩) 1 1) ∧ W.cell? ⟨w.heap.size + 1 + 1, 0, none⟩ = some (.slice (some ⟨x, 0, none⟩) 3 3)) := ⟨_, rfl, (((G.refl _).alloc _).alloc _).alloc _, by simp, by go_simp, by go_simp, by go_simp, by go_simp, by go_simp, by go_simp, by go_simp, by go_simp⟩
  unfold fv at *
  go_enter Tryd.func49, Tryd.ntmps49
  go_wp2_with (first | (go_at_call 48; refine (wit_t 3 1 4096 _ (by omega)).mono ?_; rintro e w' ⟨rfl, rfl⟩))
  obtain ⟨W, hW, hG, hWl, c0, c1, c2, c3, c4, c5, c6, c7⟩ := HW.out
  rw [← hW]
  have HG : Hid (G w W) := hG
  clear hW hG HW
  go_loopw [19] (fun i wx => ∃ k : Nat, k ≤ 3 ∧ i = .int .i64 k ∧ G W wx) (fun i _ => 3 - (intOf i).toNat)
  case atStart => exact ⟨0, by omega, rfl, G.refl _⟩
  case round =>
    obtain ⟨k, hk, rfl, hGx⟩ := hrel
    have HX : Hid (G W wr) := hGx
    have HB := hGx.below
    have HT' : Hid (Tf wr) := HT.out.below (HG.out.trans hGx).below
    have HI' : Hid (Ib wr x z) := HI.out.below (HG.out.trans hGx).below
    obtain ⟨kc, kf⟩ := bcell HB
    replace c0 := (kc _ _ (by omega)).trans c0
    replace c1 := (kc _ _ (by omega)).trans c1
    replace c2 := (kc _ _ (by omega)).trans c2
    replace c3 := (kc _ _ (by omega)).trans c3
    replace c4 := (kc _ _ (by omega)).trans c4
    replace c5 := (kc _ _ (by omega)).trans c5
    replace c6 := (kc _ _ (by omega)).trans c6
    replace c7 := (kc _ _ (by omega)).trans c7
    have hwl : w.heap.size + 1 + 1 < wr.heap.size := Nat.lt_of_lt_of_le hWl HB.size
    have hxl : x < wr.heap.size := HI'.out.lx
    clear kc kf HB hGx hWl
    have f0 := acell (by omega) c0
    have f1 := acell (by omega) c1
    have f2 := acell (by omega) c2
    have f3 := acell (by omega) c3
    have f4 := acell (by omega) c4
    have f5 := acell (by omega) c5
    have f6 := acell (by omega) c6
    rcases (by omega : k = 0 ∨ k = 1 ∨ k = 2 ∨ k = 3) with rfl | rfl | rfl | rfl
    · have d0 := HI'.out.at_ 0 _ rfl
      have d1 := HI'.out.at_ 1 _ rfl
      have d2 := HI'.out.at_ 2 _ rfl
      have d3 := HI'.out.at_ 3 _ rfl
      have d4 := HI'.out.at_ 4 _ rfl
      have d5 := HI'.out.at_ 5 _ rfl
      have d6 := HI'.out.at_ 6 _ rfl
      have d7 := HI'.out.at_ 7 _ rfl
      have d8 := HI'.out.at_ 8 _ rfl
      have hE := fun w => end_f 1 w (by omega)
      have hC : Hid (∀ W', G wr W' → Calls Tryd.prog 62 #[.agg #[.map (some a), .map (some b)], .agg #[.string ⟨#[109, 97, 105, 110]⟩, .int .i64 0, .int .i64 1, .int .i64 0, .slice (some ⟨y, 0, none⟩) 1 1], .agg #[.int .i64 1, .int .i64 0, .int .i64 0, .int .i64 0, .int .i64 7, .string ⟨#[]⟩, .slice none 0 0, .int .i64 0, .int .i64 0]] W' fun e w' => e = .returned (.bool true) ∧ G W' w') := fun W' hW' => ins_0 y a b W' (HT'.out.below hW'.below)
      go_wp2_with (first | (go_at_call 61; refine (hE _).mono ?_; rintro e w' ⟨rfl, rfl⟩) | (go_at_call 62; refine (hC.out _ ((G.refl _).alloc _)).mono ?_; rintro e w1 ⟨rfl, hg⟩))
      exact ⟨⟨1, by omega, rfl, (HX.out.alloc _).trans hg⟩, by simp [intOf]⟩
    · have d0 := HI'.out.at_ 9 _ rfl
      have d1 := HI'.out.at_ 10 _ rfl
      have d2 := HI'.out.at_ 11 _ rfl
      have d3 := HI'.out.at_ 12 _ rfl
      have d4 := HI'.out.at_ 13 _ rfl
      have d5 := HI'.out.at_ 14 _ rfl
      have d6 := HI'.out.at_ 15 _ rfl
      have d7 := HI'.out.at_ 16 _ rfl
      have d8 := HI'.out.at_ 17 _ rfl
      have hE := fun w => end_f 7 w (by omega)
      have hC : Hid (∀ W', G wr W' → Calls Tryd.prog 62 #[.agg #[.map (some a), .map (some b)], .agg #[.string ⟨#[109, 97, 105, 110]⟩, .int .i64 0, .int .i64 1, .int .i64 0, .slice (some ⟨y, 0, none⟩) 1 1], .agg #[.int .i64 7, .int .i64 (-1), .int .i64 0, .int .i64 0, .int .i64 0, .string ⟨#[114, 116, 46, 112, 114, 105, 110, 116]⟩, .slice (some ⟨z, 0, none⟩) 1 1, .int .i64 0, .int .i64 0]] W' fun e w' => e = .returned (.bool true) ∧ G W' w') := fun W' hW' => ins_1 y z a b W' (HT'.out.below hW'.below) (HI'.out.below hW'.below).ar (HI'.out.below hW'.below).lz
      go_wp2_with (first | (go_at_call 61; refine (hE _).mono ?_; rintro e w' ⟨rfl, rfl⟩) | (go_at_call 62; refine (hC.out _ ((G.refl _).alloc _)).mono ?_; rintro e w1 ⟨rfl, hg⟩))
      exact ⟨⟨2, by omega, rfl, (HX.out.alloc _).trans hg⟩, by simp [intOf]⟩
    · have d0 := HI'.out.at_ 18 _ rfl
      have d1 := HI'.out.at_ 19 _ rfl
      have d2 := HI'.out.at_ 20 _ rfl
      have d3 := HI'.out.at_ 21 _ rfl
      have d4 := HI'.out.at_ 22 _ rfl
      have d5 := HI'.out.at_ 23 _ rfl
      have d6 := HI'.out.at_ 24 _ rfl
      have d7 := HI'.out.at_ 25 _ rfl
      have d8 := HI'.out.at_ 26 _ rfl
      have hE := fun w => end_t 10 w (by omega)
      have hC : Hid (∀ W', G wr W' → Calls Tryd.prog 62 #[.agg #[.map (some a), .map (some b)], .agg #[.string ⟨#[109, 97, 105, 110]⟩, .int .i64 0, .int .i64 1, .int .i64 0, .slice (some ⟨y, 0, none⟩) 1 1], .agg #[.int .i64 10, .int .i64 0, .int .i64 (-1), .int .i64 0, .int .i64 0, .string ⟨#[]⟩, .slice none 0 0, .int .i64 0, .int .i64 0]] W' fun e w' => e = .returned (.bool true) ∧ G W' w') := fun W' hW' => ins_2 y a b W' (HT'.out.below hW'.below)
      go_wp2_with (first | (go_at_call 61; refine (hE _).mono ?_; rintro e w' ⟨rfl, rfl⟩) | (go_at_call 62; refine (hC.out _ ((G.refl _).alloc _)).mono ?_; rintro e w1 ⟨rfl, hg⟩))
      exact ⟨⟨3, by omega, rfl, (HX.out.alloc _).trans hg⟩, by simp [intOf]⟩
    · go_wp2
      go_ret
      exact ⟨rfl, HG.out.trans HX.out⟩
end
section
open Go.RowKit Go.Shelf
theorem name_main (w : World) : Calls Tryd.prog 47 #[.string ⟨#[109, 97, 105, 110]⟩] w fun e w' => e = .returned (.bool true) ∧ w' = w := nameRight46 ⟨#[109, 97, 105, 110]⟩ w (by decide)
set_option maxRecDepth 20000 in
set_option maxHeartbeats 4000000 in
theorem function38 (x y z a b : Nat) (w : World) (hT : Tf w) (hI : Ib w x z) (hy : w.cell? ⟨y, 0, none⟩ = some (.slice (some ⟨x, 0, none⟩) 3 3)) (hyl : y < w.heap.size) : Calls Tryd.prog 23 #[.agg #[.map (some a), .map (some b)], fv y] w fun e w' => e = .returned (.bool true) ∧ G w w' := by
  have HT : Hid (Tf w) := hT
  have HI : Hid (Ib w x z) := hI
  clear hT hI
  have HW : Hid (∃ W, W = (w.alloc (.cells #[.map (some a), .map (some b)] 68)).alloc (.cells #[.string ⟨#[109, 97, 105, 110]⟩, .int .i64 0, .int .i64 1, .int .i64 0, .slice (some ⟨y, 0, none⟩) 1 1] 43) ∧ G w W ∧ w.heap.size + 1 < W.heap.size ∧ W.cell? ⟨y, 0, none⟩ = some (.slice (some ⟨x, 0, none⟩) 3 3) ∧ W.cell? ⟨w.heap.size, 0, none⟩ = some (.map (some a)) ∧ W.cell? ⟨w.heap.size, 1, none⟩ = some (.map (some b)) ∧ W.cell? ⟨w.heap.size + 1, 0, none⟩ = some (.string ⟨#[109, 97, 105, 110]⟩) ∧ W.cell? ⟨w.heap.size + 1, 1, none⟩ = some (.int .i64 0) ∧ W.cell? ⟨w.heap.size + 1, 2, none⟩ = some (.int .i64 1) ∧ W.cell? ⟨w.heap.size + 1, 3, none⟩ = some (.int .i64 0) ∧ W.cell? ⟨w.heap.size + 1, 4, none⟩ = some (.slice (some ⟨y, 0, none⟩) 1 1)) := ⟨_, rfl, ((G.refl _).alloc _).alloc _, by simp, acell (by simp; omega) (acell hyl hy _) _, by go_simp, by go_simp, by go_simp, by go_simp, by go_simp, by go_simp, by go_simp⟩
  unfold fv at *
  clear hy
  go_enter Tryd.func23, Tryd.ntmps23
  go_wp2_with (first | (go_at_call 47; refine (name_main _).mono ?_; rintro e w' ⟨rfl, rfl⟩) | (go_at_call 48; (first | (with_reducible refine (wit_t 0 0 7 _ (by omega)).mono ?_) | (with_reducible refine (wit_t 1 0 4096 _ (by omega)).mono ?_) | (with_reducible refine (wit_t 0 0 4096 _ (by omega)).mono ?_) | (with_reducible refine (wit_t 1 1 1024 _ (by omega)).mono ?_)); rintro e w' ⟨rfl, rfl⟩))
  obtain ⟨W, hW, hG, hWl, cy, c0, c1, c2, c3, c4, c5, c6⟩ := HW.out
  rw [← hW]
  have HG : Hid (G w W) := hG
  clear hW hG HW
  go_loopw [41] (fun i wx => ∃ k : Nat, k ≤ 1 ∧ i = .int .i64 k ∧ G W wx) (fun i _ => 1 - (intOf i).toNat)
  case atStart => exact ⟨0, by omega, rfl, G.refl _⟩
  case round =>
    obtain ⟨k, hk, rfl, hGx⟩ := hrel
    have HX : Hid (G W wr) := hGx
    have HB := hGx.below
    have HT' : Hid (Tf wr) := HT.out.below (HG.out.trans hGx).below
    have HI' : Hid (Ib wr x z) := HI.out.below (HG.out.trans hGx).below
    have hyw : y < W.heap.size := Nat.lt_of_lt_of_le hyl HG.out.below.size
    obtain ⟨kc, kf⟩ := bcell HB
    replace cy := (kc _ _ hyw).trans cy
    replace c0 := (kc _ _ (by omega)).trans c0
    replace c1 := (kc _ _ (by omega)).trans c1
    replace c2 := (kc _ _ (by omega)).trans c2
    replace c3 := (kc _ _ (by omega)).trans c3
    replace c4 := (kc _ _ (by omega)).trans c4
    replace c5 := (kc _ _ (by omega)).trans c5
    replace c6 := (kc _ _ (by omega)).trans c6
    have hwl : w.heap.size + 1 < wr.heap.size := Nat.lt_of_lt_of_le hWl HB.size
    clear kc kf HB hGx hWl hyw
    have f0 := acell (by omega) c0
    have f1 := acell (by omega) c1
    have f2 := acell (by omega) c2
    have f3 := acell (by omega) c3
    have f4 := acell (by omega) c4
    have f5 := acell (by omega) c5
    have f6 := acell (by omega) c6
    rcases (by omega : k = 0 ∨ k = 1) with rfl | rfl
    · have hC : Hid (∀ W', G wr W' → Calls Tryd.prog 49 #[.agg #[.map (some a), .map (some b)], .agg #[.string ⟨#[109, 97, 105, 110]⟩, .int .i64 0, .int .i64 1, .int .i64 0, .slice (some ⟨y, 0, none⟩) 1 1], .agg #[.slice (some ⟨x, 0, none⟩) 3 3]] W' fun e w' => e = .returned (.bool true) ∧ G W' w') := fun W' hW' => block48 x y z a b W' (HT'.out.below hW'.below) (HI'.out.below hW'.below)
      go_wp2_with (first | (go_at_call 49; refine (hC.out _ ((G.refl _).alloc _)).mono ?_; rintro e w1 ⟨rfl, hg⟩))
      exact ⟨⟨1, by omega, rfl, (HX.out.alloc _).trans hg⟩, by simp [intOf]⟩
    · go_wp2
      go_ret
      exact ⟨rfl, HG.out.trans HX.out⟩
end
section
open Go.RowKit Go.Shelf
theorem und59 : Tryd.prog.underlying 52 = some (.map 9 3) := by kernel_rfl
theorem look59 (r : Nat) (k : ByteArray) (es : Array MapEntry) (c : Nat) (W : World) (hr : W.heap[r]? = some (.map es c)) (hf : Instr.findNow .string (.string k) es.toList 0 = some none) : (Instr.lookup 52 (.map (some r)) (.string k) true).run Tryd.prog W = .ok (.tuple #[.int .i64 0, .bool false]) W := by
  unfold Instr.lookup
  simp [Sem.run_bind, run_underlying und59, run_getObj_map W r es c hr, check9, Go.MapKept.run_findKey Tryd.underlying9 hf]
/-- A world in which one block is another. -/
def swp (W : World) (r : Nat) (o : Obj) : World := { W with heap := W.heap.setIfInBounds r o }
theorem upd59 (r : Nat) (k : ByteArray) (v : Value) (es : Array MapEntry) (c : Nat) (W : World) (hr : W.heap[r]? = some (.map es c)) (hf : Instr.findNow .string (.string k) es.toList 0 = some none) : (Instr.mapUpdate 52 (.map (some r)) (.string k) v).run Tryd.prog W = .ok () (swp W r (.map (es.push { key := .string k, val := v, born := c }) (c + 1))) := by
  unfold Instr.mapUpdate
  simp [Sem.run_bind, run_underlying und59, run_getObj_map W r es c hr, check9, Go.MapKept.run_findKey Tryd.underlying9 hf, Go.MapKept.run_setObj_map _ hr, swp]
theorem swp_size (W : World) (r : Nat) (o : Obj) : (swp W r o).heap.size = W.heap.size := by simp [swp]
theorem swp_heap (W : World) (r : Nat) (o : Obj) (b : Nat) (h : b ≠ r) : (swp W r o).heap[b]? = W.heap[b]? := by
  show (W.heap.setIfInBounds r o)[b]? = _
  rw [Array.getElem?_setIfInBounds_ne (Ne.symm h)]
theorem swp_cell (W : World) (r : Nat) (o : Obj) (b off : Nat) (h : b ≠ r) : (swp W r o).cell? ⟨b, off, none⟩ = W.cell? ⟨b, off, none⟩ := by
  unfold World.cell?
  simp only [swp_heap W r o b h]
theorem swp_below {B : Nat} {w W : World} (h : Below B w W) (r : Nat) (o : Obj) (hr : B ≤ r) : Below B w (swp W r o) := by
  obtain ⟨h1, h2, h3, h4, h5⟩ := h
  exact ⟨h1, h2, h3, by rw [swp_size]; exact h4, fun i hi => by rw [swp_heap W r o i (by omega)]; exact h5 i hi⟩
/-- The little program lies in memory: the function at p, its block at y, its instructions at x, the call's arguments at z. -/
structure Pr (w : World) (p y x z : Nat) : Prop where
  f0 : w.cell? ⟨p, 0, none⟩ = some (.string ⟨#[109, 97, 105, 110]⟩)
  f1 : w.cell? ⟨p, 1, none⟩ = some (.int .i64 0)
  f2 : w.cell? ⟨p, 2, none⟩ = some (.int .i64 1)
  f3 : w.cell? ⟨p, 3, none⟩ = some (.int .i64 0)
  f4 : w.cell? ⟨p, 4, none⟩ = some (.slice (some ⟨y, 0, none⟩) 1 1)
  by_ : w.cell? ⟨y, 0, none⟩ = some (.slice (some ⟨x, 0, none⟩) 3 3)
  ib : Ib w x z
  lp : p < w.heap.size
  ly : y < w.heap.size
theorem Pr.below {w w1 : World} {p y x z : Nat} (h : Pr w p y x z) (hb : Below w.heap.size w w1) : Pr w1 p y x z := by
  obtain ⟨kc, _⟩ := bcell hb
  exact ⟨(kc _ _ h.lp).trans h.f0, (kc _ _ h.lp).trans h.f1, (kc _ _ h.lp).trans h.f2, (kc _ _ h.lp).trans h.f3, (kc _ _ h.lp).trans h.f4, (kc _ _ h.ly).trans h.by_, h.ib.below hb, Nat.lt_of_lt_of_le h.lp hb.size, Nat.lt_of_lt_of_le h.ly hb.size⟩
set_option maxRecDepth 20000 in
set_option maxHeartbeats 4000000 in
theorem programRight32 (p y x z : Nat) (w : World) (hT : Tf w) (hP : Pr w p y x z) : Calls Tryd.prog 16 #[.slice (some ⟨p, 0, none⟩) 1 1] w fun e w' => e = .returned (.bool true) ∧ Below w.heap.size w w' := by
  have HT : Hid (Tf w) := hT
  have HP : Hid (Pr w p y x z) := hP
  obtain ⟨k0, k1, k2, k3, k4, _, _, lp, _⟩ := hP
  have hmm := @run_makeMap Tryd.prog
  have g0 : ∀ q j v, q < w.heap.size → w.cell? ⟨q, j, none⟩ = some v → (((w.alloc (.map oes 14)).alloc (.map #[] 0)).alloc (.cells #[.map (some w.heap.size), .map (some (w.heap.size + 1))] 68)).cell? ⟨q, j, none⟩ = some v := fun q j v hq hv => acell (by simp; omega) (acell (by simp; omega) (acell hq hv _) _) _
  have m0 := g0 _ _ _ lp k0
  have m1 := g0 _ _ _ lp k1
  have m2 := g0 _ _ _ lp k2
  have m3 := g0 _ _ _ lp k3
  have m4 := g0 _ _ _ lp k4
  have HW : Hid (∃ W, W = (((w.alloc (.map oes 14)).alloc (.map #[] 0)).alloc (.cells #[.map (some w.heap.size), .map (some (w.heap.size + 1))] 68)).alloc (.cells #[.string ⟨#[109, 97, 105, 110]⟩, .int .i64 0, .int .i64 1, .int .i64 0, .slice (some ⟨y, 0, none⟩) 1 1] 43) ∧ Below w.heap.size w W ∧ W.heap.size = w.heap.size + 4 ∧ W.heap[w.heap.size + 1]? = some (.map #[] 0) ∧ W.cell? ⟨w.heap.size + 1 + 1, 0, none⟩ = some (.map (some w.heap.size)) ∧ W.cell? ⟨w.heap.size + 1 + 1, 1, none⟩ = some (.map (some (w.heap.size + 1))) ∧ W.cell? ⟨w.heap.size + 1 + 1 + 1, 0, none⟩ = some (.string ⟨#[109, 97, 105, 110]⟩) ∧ W.cell? ⟨w.heap.size + 1 + 1 + 1, 1, none⟩ = some (.int .i64 0)) := by
    refine ⟨_, rfl, (((G.refl w).alloc _).alloc _ |>.alloc _ |>.alloc _).below, by simp, ?_, by go_simp, by go_simp, by go_simp, by go_simp⟩
    rw [(Go.MapKept.heap_alloc _ _).2 _ (by simp), (Go.MapKept.heap_alloc _ _).2 _ (by simp), (show w.heap.size + 1 = (w.alloc (.map oes 14)).heap.size by simp), (Go.MapKept.heap_alloc _ _).1]
  clear g0
  go_enter Tryd.func16, Tryd.ntmps16
  go_wp2_with (first | (go_at_call 17; refine (operations7 _).mono ?_; rintro e w' ⟨rfl, rfl⟩))
  obtain ⟨W, hW, hB, hsz, hm, c0, c1, d0, d1⟩ := HW.out
  have hl := look59 (w.heap.size + 1) ⟨#[109, 97, 105, 110]⟩ #[] 0 W hm (by rfl)
  have hu := upd59 (w.heap.size + 1) ⟨#[109, 97, 105, 110]⟩ (.int .i64 0) #[] 0 W hm (by rfl)
  obtain ⟨V, hV⟩ : ∃ V, V = swp W (w.heap.size + 1) (.map ((#[] : Array MapEntry).push { key := .string ⟨#[109, 97, 105, 110]⟩, val := .int .i64 0, born := 0 }) (0 + 1)) := ⟨_, rfl⟩
  have HBV : Hid (Below w.heap.size w V) := by rw [hV]; exact swp_below hB _ _ (by omega)
  have HsV : Hid (V.heap.size = w.heap.size + 4) := by show _ = _; rw [hV, swp_size]; exact hsz
  have e0 : V.cell? ⟨w.heap.size + 1 + 1, 0, none⟩ = some (.map (some w.heap.size)) := by rw [hV, swp_cell _ _ _ _ _ (by omega)]; exact c0
  have e1 : V.cell? ⟨w.heap.size + 1 + 1, 1, none⟩ = some (.map (some (w.heap.size + 1))) := by rw [hV, swp_cell _ _ _ _ _ (by omega)]; exact c1
  have HPV : Hid (Pr V p y x z) := HP.out.below HBV.out
  have HTV : Hid (Tf V) := HT.out.below HBV.out
  rw [← hV] at hu
  rw [hW] at hl hu c0 c1 d0 d1
  clear HW hW hV hB hm hsz W
  refine wp_loop_rounds 2 ?_
  rw [rounds_succ]
  go_wp2
  rw [rounds_succ]
  clear hl hu m0 m1 m2 m3 m4 k0 k1 k2 k3 k4 c0 c1 d0 d1
  obtain ⟨k0, k1, k2, k3, k4, _, _, lpv, _⟩ := HPV.out
  have hsv : w.heap.size + 1 + 1 < V.heap.size := by have := HsV.out; omega
  have e0' := acell hsv e0
  have e1' := acell hsv e1
  have hC : Hid (∀ W', Below V.heap.size V W' → Calls Tryd.prog 23 #[.agg #[.map (some w.heap.size), .map (some (w.heap.size + 1))], .agg #[.string ⟨#[109, 97, 105, 110]⟩, .int .i64 0, .int .i64 1, .int .i64 0, .slice (some ⟨y, 0, none⟩) 1 1]] W' fun e w' => e = .returned (.bool true) ∧ G W' w') := fun W' hW' => function38 x y z _ _ W' (HTV.out.below hW') (HPV.out.below hW').ib (HPV.out.below hW').by_ (HPV.out.below hW').ly
  go_wp2
  refine wp_loop_rounds 2 ?_
  rw [rounds_succ]
  go_wp2_with (first | (go_at_call 23; refine (hC.out _ ((Below.refl _ _).alloc (Nat.le_refl _) _)).mono ?_; rintro e w1 ⟨rfl, hg⟩))
  rw [rounds_succ]
  go_wp2
  go_ret
  exact ⟨rfl, HBV.out.trans ((((Below.refl _ _).alloc (Nat.le_refl _) _).trans (hg.below.mono (by simp))).mono HBV.out.size)⟩
set_option maxHeartbeats 1000000 in
theorem check28 (p y x z : Nat) (w : World) (hT : Tf w) (hP : Pr w p y x z) : Calls Tryd.prog 12 #[.slice (some ⟨p, 0, none⟩) 1 1] w fun e w' => e = .returned (.int .i64 0) ∧ Below w.heap.size w w' := by
  have HC : Hid (Calls Tryd.prog 16 #[.slice (some ⟨p, 0, none⟩) 1 1] w fun e w' => e = .returned (.bool true) ∧ Below w.heap.size w w') := programRight32 p y x z w hT hP
  go_enter Tryd.func12, Tryd.ntmps12
  go_wp2_with (first | (go_at_call 16; refine HC.out.mono ?_; rintro e w1 ⟨rfl, hb⟩))
  go_ret
  exact ⟨rfl, hb⟩
end
section
open Go.RowKit Go.Shelf
set_option maxHeartbeats 2000000
theorem look59f (r i : Nat) (k : ByteArray) (v : Int) (es : Array MapEntry) (c : Nat) (W : World) (hr : W.heap[r]? = some (.map es c)) (hf : Instr.findNow .string (.string k) es.toList 0 = some (some (i, .int .i64 v))) : (Instr.lookup 52 (.map (some r)) (.string k) true).run Tryd.prog W = .ok (.tuple #[.int .i64 v, .bool true]) W := by
  unfold Instr.lookup
  simp [Sem.run_bind, run_underlying und59, run_getObj_map W r es c hr, check9, Go.MapKept.run_findKey Tryd.underlying9 hf]
/-- May a function be called with so many arguments? fd: what the table of parameters has of the name; none: there is no table. -/
def calB (l : List UInt8) (n : Int) (fd : Option (Option Int)) : Bool := match rtA l with
  | some k => decide (n = k)
  | none => match fd with
    | none => nmB l && decide (n ≤ 7)
    | some none => false
    | some (some k) => decide (n = k)
/-- What the table of parameters, as a value, has of a name. -/
def PmA (W : World) (pv : Value) (s : ByteArray) (fd : Option (Option Int)) : Prop := match fd with
  | none => pv = .map none
  | some none => ∃ r es c, pv = .map (some r) ∧ W.heap[r]? = some (.map es c) ∧ Instr.findNow .string (.string s) es.toList 0 = some none
  | some (some k) => ∃ r es c i, pv = .map (some r) ∧ W.heap[r]? = some (.map es c) ∧ Instr.findNow .string (.string s) es.toList 0 = some (some (i, .int .i64 k))
theorem PmA.g {W W' : World} {pv : Value} {s : ByteArray} {fd : Option (Option Int)} (h : PmA W pv s fd) (hg : Below W.heap.size W W') : PmA W' pv s fd := by
  match fd, h with
  | none, h => exact h
  | some none, ⟨r, es, c, h1, h2, h3⟩ => exact ⟨r, es, c, h1, by rw [hg.block r (Array.getElem?_eq_some_iff.1 h2).1]; exact h2, h3⟩
  | some (some k), ⟨r, es, c, i, h1, h2, h3⟩ => exact ⟨r, es, c, i, h1, by rw [hg.block r (Array.getElem?_eq_some_iff.1 h2).1]; exact h2, h3⟩
theorem eqn59 (o : Option Nat) (w : World) : (binOp .eql 52 (.map o) (.map none)).run Tryd.prog w = .ok (.bool o.isNone) w := by
  simp [binOp, Op.equal, Op.maxDepth, run_equalIn_map_nil w 9999 52 9 3 o und59]
set_option maxRecDepth 20000 in
theorem callee74 (m : Nat) (pv : Value) (s : ByteArray) (n : Int) (fd : Option (Option Int)) (w : World) (hs : s.size ≤ maxLen) (hp : PmA w pv s fd) : Calls Tryd.prog 77 #[.agg #[.map (some m), pv], .string s, .int .i64 n] w fun e w' => e = .returned (.bool (calB s.data.toList n fd)) ∧ G w w' := by
  have hR := runtimeArgs41 s
  have hl : s.toList = s.data.toList := ByteArray.toList_eq s
  rw [hl] at hR
  have hN := nameRight46 s
  have hq := fun w => eqn59 none w
  have hq' := fun r w => eqn59 (some r) w
  simp only [Option.isNone] at hq hq'
  cases hr : rtA s.data.toList with
  | some k =>
    have HV : Hid (calB s.data.toList n fd = decide (n = k)) := by show _ = _; unfold calB; rw [hr]
    have hv : rtV s.data.toList = .tuple #[.int .i64 k, .bool true] := by unfold rtV; rw [hr]
    rw [hv] at hR
    generalize calB s.data.toList n fd = R at *
    have HE : Hid ((n == k) = R) := by show _ = _; rw [HV.out, Bool.eq_iff_iff]; simp
    clear hr hv hp hN hl
    go_enter Tryd.func77, Tryd.ntmps77
    go_wp2_with (first | (go_at_call 42; refine (hR _).mono ?_; rintro e w' ⟨rfl, rfl⟩))
    go_ret
    exact ⟨ret_bool HE.out, (G.refl _).alloc _⟩
  | none =>
    have hv : rtV s.data.toList = .tuple #[.int .i64 0, .bool false] := by unfold rtV; rw [hr]
    rw [hv] at hR
    match fd, hp with
    | none, hp =>
      obtain rfl : pv = .map none := hp
      have HV : Hid (calB s.data.toList n none = (nmB s.data.toList && decide (n ≤ 7))) := by show _ = _; unfold calB; rw [hr]
      generalize calB s.data.toList n none = R at *
      have hN' : ∀ w : World, Calls Tryd.prog 47 #[.string s] w fun e w' => e = .returned (.bool (nmB s.data.toList)) ∧ w' = w := fun w => hN w hs
      clear hr hv hN hl
      cases hb : nmB s.data.toList with
      | false =>
        rw [hb] at hN'
        have HE : Hid (false = R) := by show _ = _; rw [HV.out, hb]; rfl
        clear hb
        go_enter Tryd.func77, Tryd.ntmps77
        go_wp2_with (first | (go_at_call 42; refine (hR _).mono ?_; rintro e w' ⟨rfl, rfl⟩) | (go_at_call 47; refine (hN' _).mono ?_; rintro e w' ⟨rfl, rfl⟩))
        go_ret
        exact ⟨ret_bool HE.out, (G.refl _).alloc _⟩
      | true =>
        rw [hb] at hN'
        have HE : Hid (decide (n ≤ 7) = R) := by show _ = _; rw [HV.out, hb]; rfl
        clear hb
        go_enter Tryd.func77, Tryd.ntmps77
        go_wp2_with (first | (go_at_call 42; refine (hR _).mono ?_; rintro e w' ⟨rfl, rfl⟩) | (go_at_call 47; refine (hN' _).mono ?_; rintro e w' ⟨rfl, rfl⟩))
        go_ret
        exact ⟨ret_bool HE.out, (G.refl _).alloc _⟩
    | some none, hp =>
      obtain ⟨r, es, c, rfl, h2, h3⟩ := hp
      have HV : Hid (false = calB s.data.toList n (some none)) := by show _ = _; unfold calB; rw [hr]
      generalize calB s.data.toList n (some none) = R at *
      have hlk := look59 r s es c (w.alloc (.cells #[.map (some m), .map (some r)] 68)) (by rw [(Go.MapKept.heap_alloc _ _).2 _ (Array.getElem?_eq_some_iff.1 h2).1]; exact h2) h3
      clear hr hv hN hl h2 h3
      go_enter Tryd.func77, Tryd.ntmps77
      go_wp2_with (first | (go_at_call 42; refine (hR _).mono ?_; rintro e w' ⟨rfl, rfl⟩))
      go_ret
      exact ⟨ret_bool HV.out, (G.refl _).alloc _⟩
    | some (some k), hp =>
      obtain ⟨r, es, c, i, rfl, h2, h3⟩ := hp
      have HV : Hid ((n == k) = calB s.data.toList n (some (some k))) := by show _ = _; unfold calB; rw [hr, Bool.eq_iff_iff]; simp
      generalize calB s.data.toList n (some (some k)) = R at *
      have hlk := look59f r i s k es c (w.alloc (.cells #[.map (some m), .map (some r)] 68)) (by rw [(Go.MapKept.heap_alloc _ _).2 _ (Array.getElem?_eq_some_iff.1 h2).1]; exact h2) h3
      clear hr hv hN hl h2 h3
      go_enter Tryd.func77, Tryd.ntmps77
      go_wp2_with (first | (go_at_call 42; refine (hR _).mono ?_; rintro e w' ⟨rfl, rfl⟩))
      go_ret
      exact ⟨ret_bool HV.out, (G.refl _).alloc _⟩
end
end Go.Proofs.YtdppoblbenbafaaDoor
