/- The little tree: what is asked of it holds. -/
import Derived.Test.YtkkmeogehapjoaaGreatDoorY12
namespace Go.Proofs.YtkkmeogehapjoaaGreatDoor
open Go.RowKit Go.Shelf
def litC (a2 a3 : Nat) : Array Value := #[.int .i64 12, .string ⟨#[]⟩, .int .i64 0, .slice none 0 0, .int .i64 0, .int .i64 0, .int .i64 20, .string ⟨#[]⟩, .int .i64 0, .slice none 0 0, .int .i64 0, .int .i64 0, .int .i64 2, .string ⟨#[109, 97, 105, 110]⟩, .int .i64 0, .slice (some ⟨a2, 0, none⟩) 2 2, .int .i64 0, .int .i64 0, .int .i64 1, .string ⟨#[]⟩, .int .i64 0, .slice (some ⟨a3, 0, none⟩) 1 1, .int .i64 0, .int .i64 0]
theorem lit_cells (a2 a3 : Nat) : ∀ i x, (lit a2 a3)[i]? = some x → ∀ j y, (ndc x)[j]? = some y → (litC a2 a3)[0 + i * 6 + j]? = some y := by
  intro i x hx
  match i, hx with
  | 0, hx =>
    cases hx
    intro j y hy
    match j, hy with
    | 0, hy => exact hy
    | 1, hy => exact hy
    | 2, hy => exact hy
    | 3, hy => exact hy
    | 4, hy => exact hy
    | 5, hy => exact hy
    | n + 6, hy => simp [ndc] at hy
  | 1, hx =>
    cases hx
    intro j y hy
    match j, hy with
    | 0, hy => exact hy
    | 1, hy => exact hy
    | 2, hy => exact hy
    | 3, hy => exact hy
    | 4, hy => exact hy
    | 5, hy => exact hy
    | n + 6, hy => simp [ndc] at hy
  | 2, hx =>
    cases hx
    intro j y hy
    match j, hy with
    | 0, hy => exact hy
    | 1, hy => exact hy
    | 2, hy => exact hy
    | 3, hy => exact hy
    | 4, hy => exact hy
    | 5, hy => exact hy
    | n + 6, hy => simp [ndc] at hy
  | 3, hx =>
    cases hx
    intro j y hy
    match j, hy with
    | 0, hy => exact hy
    | 1, hy => exact hy
    | 2, hy => exact hy
    | 3, hy => exact hy
    | 4, hy => exact hy
    | 5, hy => exact hy
    | n + 6, hy => simp [ndc] at hy
  | n + 4, hx => simp [lit] at hx
theorem isa_nil (W : World) : IsA W none 0 [] := ⟨Nat.le_refl _, by decide, fun h => absurd h (Nat.lt_irrefl _)⟩
theorem lit_lies (W : World) (g a2 a3 : Nat) (hg : W.heap[g]? = some (.cells (litC a2 a3) 53 (0, 0))) (h2 : W.heap[a2]? = some (.cells #[.int .i64 0, .int .i64 1] 3 (0, 0))) (h3 : W.heap[a3]? = some (.cells #[.int .i64 2] 3 (0, 0))) : NdA W (some ⟨g, 0, none⟩) 4 (lit a2 a3) := by
  refine ⟨Nat.le_refl _, by decide, fun x hx => ?_, fun _ => ⟨g, 0, rfl, fun i x hi j y hy => ?_⟩⟩
  · simp only [lit, List.mem_cons, List.not_mem_nil, or_false] at hx
    rcases hx with rfl | rfl | rfl | rfl
    · exact ⟨by decide, by decide, by decide, isa_nil W⟩
    · exact ⟨by decide, by decide, by decide, isa_nil W⟩
    · refine ⟨by show (4 : Nat) ≤ 4294967280; decide, by show (-9223372036854775808 : Int) ≤ 0; decide, by show (0 : Int) ≤ 9223372036854775807; decide, Nat.le_refl _, by show 2 ≤ 9223372036854775807; decide, fun _ => ⟨a2, 0, rfl, fun j y hy => ?_⟩⟩
      rw [Lib.cell_of_heap h2]
      match j, hy with
      | 0, hy => cases hy; rfl
      | 1, hy => cases hy; rfl
      | n + 2, hy => simp [lx2] at hy
    · refine ⟨by show (0 : Nat) ≤ 4294967280; decide, by show (-9223372036854775808 : Int) ≤ 0; decide, by show (0 : Int) ≤ 9223372036854775807; decide, Nat.le_refl _, by show 1 ≤ 9223372036854775807; decide, fun _ => ⟨a3, 0, rfl, fun j y hy => ?_⟩⟩
      rw [Lib.cell_of_heap h3]
      match j, hy with
      | 0, hy => cases hy; rfl
      | n + 1, hy => simp [lx3] at hy
  · rw [Lib.cell_of_heap hg]
    exact lit_cells a2 a3 i x hi j y hy
/-- The world in which the little tree lies. -/
def litW (w : World) : World := (((w.alloc (.cells #[.int .i64 0, .int .i64 1] 3)).alloc (.cells #[.int .i64 2] 3)).alloc (.cells (litC w.heap.size (w.heap.size + 1)) 53)).alloc (.cells #[.slice (some ⟨w.heap.size + 1 + 1, 0, none⟩) 4 4] 24)
theorem litW_all (w : World) : Below w.heap.size w (litW w) ∧ NdA (litW w) (some ⟨w.heap.size + 1 + 1, 0, none⟩) 4 (lit w.heap.size (w.heap.size + 1)) ∧ (litW w).cell? ⟨w.heap.size + 1 + 1 + 1, 0, none⟩ = some (.slice (some ⟨w.heap.size + 1 + 1, 0, none⟩) 4 4) ∧ w.heap.size + 1 + 1 + 1 < (litW w).heap.size := by
  obtain ⟨w1, e1⟩ : ∃ w1, w1 = w.alloc (.cells #[.int .i64 0, .int .i64 1] 3) := ⟨_, rfl⟩
  obtain ⟨w2, e2⟩ : ∃ w2, w2 = w1.alloc (.cells #[.int .i64 2] 3) := ⟨_, rfl⟩
  obtain ⟨w3, e3⟩ : ∃ w3, w3 = w2.alloc (.cells (litC w.heap.size (w.heap.size + 1)) 53) := ⟨_, rfl⟩
  have s1 : w1.heap.size = w.heap.size + 1 := by rw [e1]; simp
  have s2 : w2.heap.size = w.heap.size + 1 + 1 := by rw [e2]; simp [s1]
  have s3 : w3.heap.size = w.heap.size + 1 + 1 + 1 := by rw [e3]; simp [s2]
  have e4 : litW w = w3.alloc (.cells #[.slice (some ⟨w.heap.size + 1 + 1, 0, none⟩) 4 4] 24) := by rw [e3, e2, e1]; rfl
  have s4 : (litW w).heap.size = w.heap.size + 1 + 1 + 1 + 1 := by rw [e4]; simp [s3]
  have n1 : w1.heap[w.heap.size]? = some (.cells #[.int .i64 0, .int .i64 1] 3 (0, 0)) := by rw [e1]; exact Go.heap_alloc_new w _
  have n2 : w2.heap[w.heap.size + 1]? = some (.cells #[.int .i64 2] 3 (0, 0)) := by rw [e2, ← s1]; exact Go.heap_alloc_new w1 _
  have n3 : w3.heap[w.heap.size + 1 + 1]? = some (.cells (litC w.heap.size (w.heap.size + 1)) 53 (0, 0)) := by rw [e3, ← s2]; exact Go.heap_alloc_new w2 _
  have n4 : (litW w).heap[w.heap.size + 1 + 1 + 1]? = some (.cells #[.slice (some ⟨w.heap.size + 1 + 1, 0, none⟩) 4 4] 24 (0, 0)) := by rw [e4, ← s3]; exact Go.heap_alloc_new w3 _
  have o2 : ∀ i, i < w.heap.size + 1 → w2.heap[i]? = w1.heap[i]? := fun i hi => by rw [e2, Lib.alloc_old w1 _ i (by omega)]
  have o3 : ∀ i, i < w.heap.size + 1 + 1 → w3.heap[i]? = w2.heap[i]? := fun i hi => by rw [e3, Lib.alloc_old w2 _ i (by omega)]
  have o4 : ∀ i, i < w.heap.size + 1 + 1 + 1 → (litW w).heap[i]? = w3.heap[i]? := fun i hi => by rw [e4, Lib.alloc_old w3 _ i (by omega)]
  refine ⟨?_, lit_lies _ _ _ _ ?_ ?_ ?_, ?_, by omega⟩
  · have b1 : Below w.heap.size w w1 := by rw [e1]; exact below_cells w _ _
    have b2 : Below w.heap.size w w2 := by rw [e2]; exact b1.alloc b1.size _
    have b3 : Below w.heap.size w w3 := by rw [e3]; exact b2.alloc b2.size _
    rw [e4]
    exact b3.alloc b3.size _
  · rw [o4 _ (by omega), n3]
  · rw [o4 _ (by omega), o3 _ (by omega), o2 _ (by omega), n1]
  · rw [o4 _ (by omega), o3 _ (by omega), n2]
  · rw [Lib.cell_of_heap n4]; rfl
set_option maxRecDepth 100000 in
set_option maxHeartbeats 4000000 in
theorem small13 (w : World) (hT : Tm w) : Calls Tryz.prog 13 #[] w fun e w' => e = .returned (.bool true) ∧ Below w.heap.size w w' := by
  obtain ⟨hb, hl, hc, hz⟩ := litW_all w
  have H9 : Hid (Calls Tryz.prog 9 #[.agg #[.slice (some ⟨w.heap.size + 1 + 1, 0, none⟩) 4 4]] (litW w) fun e w' => e = .returned (.tuple #[.string ⟨#[102, 110, 32, 109, 97, 105, 110, 32, 40, 32, 41, 32, 123, 32, 125]⟩, .int .i64 0]) ∧ Below (litW w).heap.size (litW w) w') := lit_print _ _ _ _ _ (hT.below hb) hl
  have H23 : Hid (∀ W, Below (litW w).heap.size (litW w) W → Calls Tryz.prog 23 #[.agg #[.slice (some ⟨w.heap.size + 1 + 1, 0, none⟩) 4 4]] W fun e w' => e = .returned (.tuple #[.int .i64 2, .int .i64 0]) ∧ Below W.heap.size W w') := fun W hW => lit_depth _ _ _ _ _ ((hT.below hb).below hW) (hl.below hW)
  have H11 : Hid (∀ W, Below w.heap.size w W → Calls Tryz.prog 11 #[.agg #[.slice none 0 0]] W fun e w' => e = .returned (.int .i64 3) ∧ Below W.heap.size W w') := fun W hW => nil_check W (hT.below hW)
  have HB : Hid (Below w.heap.size w (litW w)) := hb
  have HC : Hid ((litW w).cell? ⟨w.heap.size + 1 + 1 + 1, 0, none⟩ = some (.slice (some ⟨w.heap.size + 1 + 1, 0, none⟩) 4 4) ∧ w.heap.size + 1 + 1 + 1 < (litW w).heap.size) := ⟨hc, hz⟩
  clear hT hb hl hc hz
  go_enter Tryz.func13, Tryz.ntmps13
  go_wp2_with fail
  refine H9.out.mono ?_
  rintro e w1 ⟨rfl, hb⟩
  have HB1 : Hid (Below (litW w).heap.size (litW w) w1) := hb
  have d0 : w1.cell? ⟨w.heap.size + 1 + 1 + 1, 0, none⟩ = some (.slice (some ⟨w.heap.size + 1 + 1, 0, none⟩) 4 4) := ((bcell hb).1 _ 0 HC.out.2).trans HC.out.1
  clear hb H9
  go_wp2_with fail
  refine (H23.out _ HB1.out).mono ?_
  rintro e w2 ⟨rfl, hb⟩
  have HB2 : Hid (Below w.heap.size w w2) := HB.out.trans ((HB1.out.trans (hb.mono HB1.out.size)).mono HB.out.size)
  clear hb H23 d0 HB1
  go_wp2_with fail
  refine (H11.out _ HB2.out).mono ?_
  rintro e w3 ⟨rfl, hb⟩
  have HB3 : Hid (Below w.heap.size w w3) := HB2.out.trans (hb.mono HB2.out.size)
  clear hb H11
  go_wp2
  go_ret
  exact ⟨rfl, HB3.out⟩
end Go.Proofs.YtkkmeogehapjoaaGreatDoor
