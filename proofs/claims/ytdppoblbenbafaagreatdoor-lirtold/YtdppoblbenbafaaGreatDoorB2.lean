/- The little program is right. -/
import Derived.Test.YtdppoblbenbafaaGreatDoorB1
namespace Go.Proofs.YtdppoblbenbafaaGreatDoor
open Go.RowKit Go.Shelf
theorem und59 : Tryz.prog.underlying 58 = some (.map 9 3) := by kernel_rfl
theorem look59 (r : Nat) (k : ByteArray) (es : Array MapEntry) (c : Nat) (W : World) (hr : W.heap[r]? = some (.map es c)) (hf : Instr.findNow .string (.string k) es.toList 0 = some none) : (Instr.lookup 58 (.map (some r)) (.string k) true).run Tryz.prog W = .ok (.tuple #[.int .i64 0, .bool false]) W := by
  unfold Instr.lookup
  simp [Sem.run_bind, run_underlying und59, run_getObj_map W r es c hr, check9, Go.MapKept.run_findKey Tryz.underlying9 hf]
/-- A world in which one block is another. -/
def swp (W : World) (r : Nat) (o : Obj) : World := { W with heap := W.heap.setIfInBounds r o }
theorem upd59 (r : Nat) (k : ByteArray) (v : Value) (es : Array MapEntry) (c : Nat) (W : World) (hr : W.heap[r]? = some (.map es c)) (hf : Instr.findNow .string (.string k) es.toList 0 = some none) : (Instr.mapUpdate 58 (.map (some r)) (.string k) v).run Tryz.prog W = .ok () (swp W r (.map (es.push { key := .string k, val := v, born := c }) (c + 1))) := by
  unfold Instr.mapUpdate
  simp [Sem.run_bind, run_underlying und59, run_getObj_map W r es c hr, check9, Go.MapKept.run_findKey Tryz.underlying9 hf, Go.MapKept.run_setObj_map _ hr, swp]
theorem swp_size (W : World) (r : Nat) (o : Obj) : (swp W r o).heap.size = W.heap.size := by simp [swp]
theorem swp_heap (W : World) (r : Nat) (o : Obj) (b : Nat) (h : b ≠ r) : (swp W r o).heap[b]? = W.heap[b]? := by
  show (W.heap.setIfInBounds r o)[b]? = _
  rw [Array.getElem?_setIfInBounds_ne (Ne.symm h)]
theorem swp_cell (W : World) (r : Nat) (o : Obj) (b off : Nat) (h : b ≠ r) : (swp W r o).cell? ⟨b, off, none⟩ = W.cell? ⟨b, off, none⟩ := by
  unfold World.cell?
  simp only [swp_heap W r o b h]
theorem swp_below {B : Nat} {w W : World} (h : Below B w W) (r : Nat) (o : Obj) (hr : B ≤ r) : Below B w (swp W r o) := by
  obtain ⟨h1, h2, h3, h4, h5⟩ := h
  exact ⟨h1, h2, h3, by rw [swp_size]; exact h4, fun i hi => by rw [swp_heap W r o i (by omega)]; exact h5 i hi⟩
/-- The little program lies in memory: the function at p, its block at y, its instructions at x, the call's arguments at z. -/
structure Pr (w : World) (p y x z : Nat) : Prop where
  f0 : w.cell? ⟨p, 0, none⟩ = some (.string ⟨#[109, 97, 105, 110]⟩)
  f1 : w.cell? ⟨p, 1, none⟩ = some (.int .i64 0)
  f2 : w.cell? ⟨p, 2, none⟩ = some (.int .i64 1)
  f3 : w.cell? ⟨p, 3, none⟩ = some (.int .i64 0)
  f4 : w.cell? ⟨p, 4, none⟩ = some (.slice (some ⟨y, 0, none⟩) 1 1)
  by_ : w.cell? ⟨y, 0, none⟩ = some (.slice (some ⟨x, 0, none⟩) 3 3)
  ib : Ib w x z
  lp : p < w.heap.size
  ly : y < w.heap.size
theorem Pr.below {w w1 : World} {p y x z : Nat} (h : Pr w p y x z) (hb : Below w.heap.size w w1) : Pr w1 p y x z := by
  obtain ⟨kc, _⟩ := bcell hb
  exact ⟨(kc _ _ h.lp).trans h.f0, (kc _ _ h.lp).trans h.f1, (kc _ _ h.lp).trans h.f2, (kc _ _ h.lp).trans h.f3, (kc _ _ h.lp).trans h.f4, (kc _ _ h.ly).trans h.by_, h.ib.below hb, Nat.lt_of_lt_of_le h.lp hb.size, Nat.lt_of_lt_of_le h.ly hb.size⟩
set_option maxRecDepth 20000 in
set_option maxHeartbeats 4000000 in
theorem programRight32 (p y x z : Nat) (w : World) (hT : Tf w) (hP : Pr w p y x z) : Calls Tryz.prog 26 #[.slice (some ⟨p, 0, none⟩) 1 1] w fun e w' => e = .returned (.bool true) ∧ Below w.heap.size w w' := by
  have HT : Hid (Tf w) := hT
  have HP : Hid (Pr w p y x z) := hP
  obtain ⟨k0, k1, k2, k3, k4, _, _, lp, _⟩ := hP
  have hmm := @run_makeMap Tryz.prog
  have g0 : ∀ q j v, q < w.heap.size → w.cell? ⟨q, j, none⟩ = some v → (((w.alloc (.map oes 14)).alloc (.map #[] 0)).alloc (.cells #[.map (some w.heap.size), .map (some (w.heap.size + 1))] 60)).cell? ⟨q, j, none⟩ = some v := fun q j v hq hv => acell (by simp; omega) (acell (by simp; omega) (acell hq hv _) _) _
  have m0 := g0 _ _ _ lp k0
  have m1 := g0 _ _ _ lp k1
  have m2 := g0 _ _ _ lp k2
  have m3 := g0 _ _ _ lp k3
  have m4 := g0 _ _ _ lp k4
  have HW : Hid (∃ W, W = (((w.alloc (.map oes 14)).alloc (.map #[] 0)).alloc (.cells #[.map (some w.heap.size), .map (some (w.heap.size + 1))] 60)).alloc (.cells #[.string ⟨#[109, 97, 105, 110]⟩, .int .i64 0, .int .i64 1, .int .i64 0, .slice (some ⟨y, 0, none⟩) 1 1] 27) ∧ Below w.heap.size w W ∧ W.heap.size = w.heap.size + 4 ∧ W.heap[w.heap.size + 1]? = some (.map #[] 0) ∧ W.cell? ⟨w.heap.size + 1 + 1, 0, none⟩ = some (.map (some w.heap.size)) ∧ W.cell? ⟨w.heap.size + 1 + 1, 1, none⟩ = some (.map (some (w.heap.size + 1))) ∧ W.cell? ⟨w.heap.size + 1 + 1 + 1, 0, none⟩ = some (.string ⟨#[109, 97, 105, 110]⟩) ∧ W.cell? ⟨w.heap.size + 1 + 1 + 1, 1, none⟩ = some (.int .i64 0)) := by
    refine ⟨_, rfl, (((G.refl w).alloc _).alloc _ |>.alloc _ |>.alloc _).below, by simp, ?_, by go_simp, by go_simp, by go_simp, by go_simp⟩
    rw [(Go.MapKept.heap_alloc _ _).2 _ (by simp), (Go.MapKept.heap_alloc _ _).2 _ (by simp), (show w.heap.size + 1 = (w.alloc (.map oes 14)).heap.size by simp), (Go.MapKept.heap_alloc _ _).1]
  clear g0
  go_enter Tryz.func26, Tryz.ntmps26
  go_wp2_with (first | (go_at_call 23; refine (operations7 _).mono ?_; rintro e w' ⟨rfl, rfl⟩))
  obtain ⟨W, hW, hB, hsz, hm, c0, c1, d0, d1⟩ := HW.out
  have hl := look59 (w.heap.size + 1) ⟨#[109, 97, 105, 110]⟩ #[] 0 W hm (by rfl)
  have hu := upd59 (w.heap.size + 1) ⟨#[109, 97, 105, 110]⟩ (.int .i64 0) #[] 0 W hm (by rfl)
  obtain ⟨V, hV⟩ : ∃ V, V = swp W (w.heap.size + 1) (.map ((#[] : Array MapEntry).push { key := .string ⟨#[109, 97, 105, 110]⟩, val := .int .i64 0, born := 0 }) (0 + 1)) := ⟨_, rfl⟩
  have HBV : Hid (Below w.heap.size w V) := by rw [hV]; exact swp_below hB _ _ (by omega)
  have HsV : Hid (V.heap.size = w.heap.size + 4) := by show _ = _; rw [hV, swp_size]; exact hsz
  have e0 : V.cell? ⟨w.heap.size + 1 + 1, 0, none⟩ = some (.map (some w.heap.size)) := by rw [hV, swp_cell _ _ _ _ _ (by omega)]; exact c0
  have e1 : V.cell? ⟨w.heap.size + 1 + 1, 1, none⟩ = some (.map (some (w.heap.size + 1))) := by rw [hV, swp_cell _ _ _ _ _ (by omega)]; exact c1
  have HPV : Hid (Pr V p y x z) := HP.out.below HBV.out
  have HTV : Hid (Tf V) := HT.out.below HBV.out
  rw [← hV] at hu
  rw [hW] at hl hu c0 c1 d0 d1
  clear HW hW hV hB hm hsz W
  refine wp_loop_rounds 2 ?_
  rw [rounds_succ]
  go_wp2
  rw [rounds_succ]
  clear hl hu m0 m1 m2 m3 m4 k0 k1 k2 k3 k4 c0 c1 d0 d1
  obtain ⟨k0, k1, k2, k3, k4, _, _, lpv, _⟩ := HPV.out
  have hsv : w.heap.size + 1 + 1 < V.heap.size := by have := HsV.out; omega
  have e0' := acell hsv e0
  have e1' := acell hsv e1
  have hC : Hid (∀ W', Below V.heap.size V W' → Calls Tryz.prog 24 #[.agg #[.map (some w.heap.size), .map (some (w.heap.size + 1))], .agg #[.string ⟨#[109, 97, 105, 110]⟩, .int .i64 0, .int .i64 1, .int .i64 0, .slice (some ⟨y, 0, none⟩) 1 1]] W' fun e w' => e = .returned (.bool true) ∧ G W' w') := fun W' hW' => function38 x y z _ _ W' (HTV.out.below hW') (HPV.out.below hW').ib (HPV.out.below hW').by_ (HPV.out.below hW').ly
  go_wp2
  refine wp_loop_rounds 2 ?_
  rw [rounds_succ]
  go_wp2_with (first | (go_at_call 24; refine (hC.out _ ((Below.refl _ _).alloc (Nat.le_refl _) _)).mono ?_; rintro e w1 ⟨rfl, hg⟩))
  rw [rounds_succ]
  go_wp2
  go_ret
  exact ⟨rfl, HBV.out.trans ((((Below.refl _ _).alloc (Nat.le_refl _) _).trans (hg.below.mono (by simp))).mono HBV.out.size)⟩
set_option maxHeartbeats 1000000 in
theorem check28 (p y x z : Nat) (w : World) (hT : Tf w) (hP : Pr w p y x z) : Calls Tryz.prog 9 #[.slice (some ⟨p, 0, none⟩) 1 1] w fun e w' => e = .returned (.int .i64 0) ∧ Below w.heap.size w w' := by
  have HC : Hid (Calls Tryz.prog 26 #[.slice (some ⟨p, 0, none⟩) 1 1] w fun e w' => e = .returned (.bool true) ∧ Below w.heap.size w w') := programRight32 p y x z w hT hP
  go_enter Tryz.func9, Tryz.ntmps9
  go_wp2_with (first | (go_at_call 26; refine HC.out.mono ?_; rintro e w1 ⟨rfl, hb⟩))
  go_ret
  exact ⟨rfl, hb⟩
end Go.Proofs.YtdppoblbenbafaaGreatDoor
