/- Walks of a memory that is nil: its copy; of a memory without pages. -/
import Derived.Test.YtndbkkldfinggacM4
namespace Go.Proofs.Ytndbkkldfinggac
open Go.RowKit Go.Shelf
set_option maxHeartbeats 1000000 in
theorem new21 (w : World) : Calls Try.prog 21 #[] w fun e w' => e = .returned (.pointer (some ⟨w.heap.size + 1, 0, none⟩)) ∧ w' = (w.alloc (.map #[] 0)).alloc (.cells #[.map (some w.heap.size)] 44) := by
  have hmm := @run_makeMap Try.prog
  go_enter Try.func21, Try.ntmps21
  go_wp2
  go_ret
  exact ⟨rfl, rfl⟩
theorem und42 : Try.prog.underlying 42 = some (.map (Try.prog.mapKeyOf 42) (Try.prog.mapElemOf 42)) := by kernel_rfl
set_option maxRecDepth 20000 in
set_option maxHeartbeats 1000000 in
theorem count24_new (b r : Nat) (w : World) (hc : w.cell? ⟨b, 0, none⟩ = some (.map (some r))) (hr : w.heap[r]? = some (.map #[] 0)) : Calls Try.prog 24 #[.pointer (some ⟨b, 0, none⟩)] w fun e w' => e = .returned (.int .i64 0) ∧ w' = w := by
  have hlen := run_len_map (P := Try.prog) (w := w) 42 3 r #[] 0 und42 hr
  go_enter Try.func24, Try.ntmps24
  go_wp2
  go_ret
  exact ⟨rfl, rfl⟩
theorem heap_at (w : World) (o : Obj) : (w.alloc o).heap[w.heap.size]? = some o := World.alloc_heap_new w o
theorem heap_on {w : World} {r : Nat} {x : Obj} (h : w.heap[r]? = some x) (o : Obj) : (w.alloc o).heap[r]? = some x := (Below.heap_alloc w o r (Array.getElem?_eq_some_iff.1 h).1).trans h
theorem clone_world (w : World) : ∃ W0, ((((w.alloc (.map #[] 0)).alloc (.cells #[.map (some w.heap.size)] 44)).alloc (.cells #[.pointer (some ⟨w.heap.size + 1, 0, none⟩)] 26)).alloc (.cells #[.pointer none] 26)) = W0 ∧ W0.heap.size = w.heap.size + 4 ∧ W0.cell? ⟨w.heap.size + 1 + 1 + 1, 0, none⟩ = some (.pointer none) ∧ W0.cell? ⟨w.heap.size + 1 + 1, 0, none⟩ = some (.pointer (some ⟨w.heap.size + 1, 0, none⟩)) ∧ W0.cell? ⟨w.heap.size + 1, 0, none⟩ = some (.map (some w.heap.size)) ∧ W0.heap[w.heap.size]? = some (.map #[] 0) ∧ Below w.heap.size w W0 := by
  refine ⟨_, rfl, by simp, by go_simp, by go_simp, by go_simp, heap_on (heap_on (heap_on (heap_at w _) _) _) _, ?_⟩
  exact ((((Below.refl _ w).alloc (Nat.le_refl _) _).alloc (by simp) _).alloc (by simp; omega) _).alloc (by simp; omega) _
set_option maxRecDepth 100000 in
set_option maxHeartbeats 2000000 in
theorem clone8_nil (w : World) : Calls Try.prog 8 #[.pointer none] w fun e w' => ∃ b r, e = .returned (.pointer (some ⟨b, 0, none⟩)) ∧ w'.cell? ⟨b, 0, none⟩ = some (.map (some r)) ∧ w'.heap[r]? = some (.map #[] 0) ∧ b < w'.heap.size ∧ r < w'.heap.size ∧ Below w.heap.size w w' := by
  refine (callsIn_wide (n := 4)).1 ?_
  refine callsIn_of_wp_marks Try.func8 rfl trivial ?_ rfl
  simp only [Try.ntmps8, List.size_toArray, List.length_cons, List.length_nil, Nat.reduceAdd, Nat.reduceSub, Array.replicate_succ, Array.replicate_zero, List.push_toArray, List.append_toArray, List.nil_append, List.cons_append]
  gi_wp2_with (first | (refine ⟨trivial, ?_⟩; gi_at_call 21; refine (callsIn_wide.2 (new21 _)).mono ?_; rintro e w' ⟨rfl, rfl⟩) | (refine ⟨trivial, ?_⟩; gi_at_call 22; refine (callsIn_wide.2 (inOrder22_nil _)).mono ?_; rintro e w' ⟨rfl, rfl⟩))
  obtain ⟨W0, hW0, f0, f1, f2, f3, f4, f5⟩ := clone_world w
  rw [hW0]
  clear hW0
  refine wpIn_rangeFunc_ownF (α := Empty) rfl (by omega) (gf := 32) (lb := #[.pointer (some ⟨w.heap.size + 1 + 1 + 1, 0, none⟩)]) rfl trivial (enters_of Try.func32 (by kernel_rfl) rfl)
    (inOrder32_nil _ (w.heap.size + 1 + 1 + 1) W0 (by omega) f1) (fun _ _ => trivial) (fun _ _ _ _ _ _ _ _ => trivial) (Below.refl _ _) (fun x => x.elim)
    (fun _ W => Below W0.heap.size W0 W)
    (fun _ _ _ => False)
    (ownFrom_below (Nat.le_refl _) (Nat.le_refl _))
    (fun _ _ _ _ _ hs _ _ => hs)
    (Below.refl _ _)
    (fun x => x.elim) ?assign ?body ?done ?stop
  case assign => intro l x; exact x.elim
  case body => intro l pre x; exact x.elim
  case done =>
    rintro D ys W hD rfl hB hK
    have g2 := (hB.cell (p := ⟨w.heap.size + 1 + 1, 0, none⟩) (by simp; omega)).trans f2
    gi_wp2
    refine ⟨by simp, .inl ⟨_, _, rfl, run_takeDeferred hK, ?_⟩⟩
    have hB' := hB.trans (belowK_b (w := W0) (Nat.le_refl _) W D _ (.deferred none) hD hK rfl rfl)
    refine ⟨_, results_tmp rfl _ _ _, _, _, rfl, (hB'.cell (p := ⟨w.heap.size + 1, 0, none⟩) (by simp; omega)).trans f3, (hB'.block _ (by omega)).trans f4, by have := hB'.size; omega, by have := hB'.size; omega, f5.trans (hB'.mono (by omega))⟩
  case stop =>
    rintro D c pre W _ _ h _
    exact h.elim
end Go.Proofs.Ytndbkkldfinggac
