/- Walks of a memory that is nil, held against one without pages. -/
import Derived.Test.YtndbkkldfinggacM5
import Derived.Deep.RegionWith
namespace Go.Proofs.Ytndbkkldfinggac
open Go.RowKit Go.Shelf
theorem same_world (w : World) (b nq : Nat) : ∃ W0, ((((w.alloc (.cells #[.pointer (some ⟨b, 0, none⟩)] 26)).alloc (.cells #[.bool false] 4)).drewN nq).alloc (.cells #[.pointer none] 26)) = W0 ∧ W0.heap.size = w.heap.size + 3 ∧ W0.cell? ⟨w.heap.size + 1 + 1, 0, none⟩ = some (.pointer none) ∧ W0.cell? ⟨w.heap.size + 1, 0, none⟩ = some (.bool false) ∧ W0.frozen? ⟨w.heap.size + 1, 0, none⟩ = false ∧ Below w.heap.size w W0 := by
  refine ⟨_, rfl, by simp, ?_, ?_, ?_, ?_⟩
  · have := World.alloc_heap_new (((w.alloc (.cells #[.pointer (some ⟨b, 0, none⟩)] 26)).alloc (.cells #[.bool false] 4)).drewN nq) (.cells #[.pointer none] 26)
    simp at this
    simp [World.cell?, this]
  · exact (((Below.refl _ (((w.alloc (.cells #[.pointer (some ⟨b, 0, none⟩)] 26)).alloc (.cells #[.bool false] 4)).drewN nq)).alloc (Nat.le_refl _) _).cell (p := ⟨w.heap.size + 1, 0, none⟩) (by simp)).trans (by go_simp)
  · exact (((Below.refl _ (((w.alloc (.cells #[.pointer (some ⟨b, 0, none⟩)] 26)).alloc (.cells #[.bool false] 4)).drewN nq)).alloc (Nat.le_refl _) _).frozen (p := ⟨w.heap.size + 1, 0, none⟩) (by simp)).trans (by go_simp)
  · exact (below_drewN (((Below.refl _ w).alloc (Nat.le_refl _) _).alloc (by simp) _) nq).alloc (by simp; omega) _
set_option maxRecDepth 100000 in
set_option maxHeartbeats 2000000 in
theorem same10_nil (b r : Nat) (w : World) (hc : w.cell? ⟨b, 0, none⟩ = some (.map (some r))) (hr : w.heap[r]? = some (.map #[] 0)) (hb : b < w.heap.size) (_hrl : r < w.heap.size) : Calls Try.prog 10 #[.pointer none, .pointer (some ⟨b, 0, none⟩)] w fun e w' => e = .returned (.bool true) ∧ Below w.heap.size w w' := by
  refine (callsIn_wide (n := 4)).1 ?_
  refine callsIn_of_wp_marks Try.func10 rfl trivial ?_ rfl
  simp only [Try.ntmps10, List.size_toArray, List.length_cons, List.length_nil, Nat.reduceAdd, Nat.reduceSub, Array.replicate_succ, Array.replicate_zero, List.push_toArray, List.append_toArray, List.nil_append, List.cons_append]
  gi_wp2_with fail
  refine wpIn_wide.2 ?_
  have c1 : ((w.alloc (.cells #[.pointer (some ⟨b, 0, none⟩)] 26)).alloc (.cells #[.bool false] 4)).cell? ⟨b, 0, none⟩ = some (.map (some r)) := (((Below.refl w.heap.size w).alloc (Nat.le_refl _) _).alloc (by simp) _).cell (p := ⟨b, 0, none⟩) hb |>.trans hc
  have c2 : ((w.alloc (.cells #[.pointer (some ⟨b, 0, none⟩)] 26)).alloc (.cells #[.bool false] 4)).heap[r]? = some (.map #[] 0) := heap_on (heap_on hr _) _
  have HC : Hid (∀ k, Calls Try.prog 24 #[.pointer (some ⟨b, 0, none⟩)] (((w.alloc (.cells #[.pointer (some ⟨b, 0, none⟩)] 26)).alloc (.cells #[.bool false] 4)).drewN k) fun e w' => e = .returned (.int .i64 0) ∧ w' = (((w.alloc (.cells #[.pointer (some ⟨b, 0, none⟩)] 26)).alloc (.cells #[.bool false] 4)).drewN k)) := fun k => count24_new b r _ c1 c2
  clear c1 c2 hc hr
  go_quiet (first | (go_at_call_of 24 (Value.pointer none); exact Calls.quiet_of_same (count24_nil _)) | (go_at_call 24; exact Calls.quiet_of_same (HC.out _)))
  gi_wp2_with (refine ⟨trivial, ?_⟩; gi_at_call 22; refine (callsIn_wide.2 (inOrder22_nil _)).mono ?_; rintro e w' ⟨rfl, rfl⟩)
  obtain ⟨W0, hW0, f0, f1, f2, f3, f5⟩ := same_world w b nq
  rw [hW0]
  clear hW0 HC
  refine wpIn_rangeFunc_ownF (α := Empty) rfl (by omega) (gf := 32) (lb := #[.pointer (some ⟨w.heap.size + 1 + 1, 0, none⟩)]) rfl trivial (enters_of Try.func32 (by kernel_rfl) rfl)
    (inOrder32_nil _ (w.heap.size + 1 + 1) W0 (by omega) f1) (fun _ _ => trivial) (fun _ _ _ _ _ _ _ _ => trivial) (Below.refl _ _) (fun x => x.elim)
    (fun _ W => Below W0.heap.size W0 W)
    (fun _ _ _ => False)
    (ownFrom_below (Nat.le_refl _) (Nat.le_refl _))
    (fun _ _ _ _ _ hs _ _ => hs)
    (Below.refl _ _)
    (fun x => x.elim) ?assign ?body ?done ?stop
  case assign => intro l x; exact x.elim
  case body => intro l pre x; exact x.elim
  case done =>
    rintro D ys W hD rfl hB hK
    have g2 := (hB.cell (p := ⟨w.heap.size + 1, 0, none⟩) (by simp; omega)).trans f2
    have g3 := (hB.frozen (p := ⟨w.heap.size + 1, 0, none⟩) (by simp; omega)).trans f3
    gi_wp2
    have hK1 := (KeepsOthers.setCell W ⟨w.heap.size + 1, 0, none⟩ (.bool true)).same D _ hK rfl
    have hc1 : (W.setCell ⟨w.heap.size + 1, 0, none⟩ (.bool true)).cell? ⟨w.heap.size + 1, 0, none⟩ = some (.bool true) := World.cell?_setCell_same' _ _ _ (by rw [g2]; rfl)
    have hc2 := cell_kept hc1 (grownBy_putObj' _ D (.deferred none)) (fun r e => by cases e; exact ⟨_, hK1, rfl⟩)
    refine ⟨by simp, .inl ⟨_, _, rfl, run_takeDeferred hK1, ?_⟩⟩
    have hB1 : Below w.heap.size w (W.setCell ⟨w.heap.size + 1, 0, none⟩ (.bool true)) := (f5.trans (hB.mono (by omega))).setCell (p := ⟨w.heap.size + 1, 0, none⟩) (by simp) _
    exact ⟨.bool true, by simp [results, Try.results10, go_sem, hc2], rfl, hB1.trans (belowK_b (w := w) (Nat.le_refl _) _ D _ (.deferred none) (by omega) hK1 rfl rfl)⟩
  case stop =>
    rintro D c pre W _ _ h _
    exact h.elim
end Go.Proofs.Ytndbkkldfinggac
