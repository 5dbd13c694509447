/- A page with bytes of its own (copied); whether a number is what may be done to a page (permRight). -/
import Derived.Test.YtndbkkldfinggabF1
namespace Go.Proofs.Ytndbkkldfinggab
open Go.RowKit Go.Shelf
theorem grownBy_setAny (W : World) (b o : Nat) (v : Value) : W.grownBy (W.setCell ⟨b, o, none⟩ v) (some b) :=
  ⟨rfl, rfl, rfl, (KeepsWalks.setCell W _ v).size, fun k _ hk => Below.heap_setCell _ _ _ k (fun e => hk (by rw [e]))⟩
set_option maxHeartbeats 2000000 in
set_option maxRecDepth 100000 in
theorem copied29 (k p : Int) (gs os c : Nat) (Y : Nat → Int) (w : World) (hc : ∀ j, j < 4096 → w.cell? ⟨gs, os + j, none⟩ = some (.int .u8 (Y j))) :
    Calls Try.prog 29 #[.agg #[.int .u64 k, .int .i64 p, .slice (some ⟨gs, os, none⟩) 4096 c]] w fun e w' => ∃ g cap cur, e = .returned (.agg #[.int .u64 k, .int .i64 p, .slice (some ⟨g, 0, none⟩) 4096 cap]) ∧ w.heap.size ≤ g ∧ 4096 ≤ cap ∧ w'.heap[g]? = some (.cells cur 5 (0, 0)) ∧ cur.size = cap ∧ (∀ j, j < 4096 → w'.cell? ⟨g, j, none⟩ = some (.int .u8 (Y j))) ∧ Below w.heap.size w w' := by
  have A : Hid (∀ j, j < 4096 → w.cell? ⟨gs, os + j, none⟩ = some (.int .u8 (Y j))) := hc
  clear hc
  go_enter Try.func29, Try.ntmps29
  go_wp2_with fail
  obtain ⟨w0, hw0⟩ : ∃ w0, ((w.alloc (.cells #[.int .u64 k, .int .i64 p, .slice (some ⟨gs, os, none⟩) 4096 c] 62)).alloc (.cells #[.int .u64 0, .int .i64 0, .slice none 0 0] 62)) = w0 := ⟨_, rfl⟩
  have hB0 : Below w.heap.size w w0 := by rw [← hw0]; exact ((Below.refl _ w).alloc (Nat.le_refl _) _).alloc (by simp) _
  have h1 : w0.heap[w.heap.size]? = some (.cells #[.int .u64 k, .int .i64 p, .slice (some ⟨gs, os, none⟩) 4096 c] 62 (0, 0)) := by rw [← hw0]; exact heap_on (heap_at w _) _
  have h2 : w0.heap[w.heap.size + 1]? = some (.cells #[.int .u64 0, .int .i64 0, .slice none 0 0] 62 (0, 0)) := by rw [← hw0]; have t := heap_at (w.alloc (.cells #[.int .u64 k, .int .i64 p, .slice (some ⟨gs, os, none⟩) 4096 c] 62)) (.cells #[.int .u64 0, .int .i64 0, .slice none 0 0] 62); simpa using t
  have hs0 : w0.heap.size = w.heap.size + 2 := by rw [← hw0]; simp
  rw [hw0]
  clear hw0
  refine (clone48 gs os c 4096 Y w0 (by omega) (by omega) (fun j hj => (hB0.cell (p := ⟨gs, os + j, none⟩) (lt_of_cell (A.out j hj))).trans (A.out j hj))).mono ?_
  rintro e w1 ⟨g, cap, cur, rfl, hg, hcap, hh, hsz, hcell, hb⟩
  have d1 : w1.heap[w.heap.size]? = some (.cells #[.int .u64 k, .int .i64 p, .slice (some ⟨gs, os, none⟩) 4096 c] 62 (0, 0)) := (hb.block _ (by omega)).trans h1
  have d2 : w1.heap[w.heap.size + 1]? = some (.cells #[.int .u64 0, .int .i64 0, .slice none 0 0] 62 (0, 0)) := (hb.block _ (by omega)).trans h2
  have s1 : w.heap.size + 2 ≤ w1.heap.size := by have := hb.size; omega
  have HX : Hid (Below w.heap.size w w1 ∧ w1.heap[g]? = some (.cells cur 5 (0, 0)) ∧ cur.size = cap ∧ (∀ j, j < 4096 → w1.cell? ⟨g, j, none⟩ = some (.int .u8 (Y j)))) := ⟨hB0.trans (hb.mono (by omega)), hh, hsz, hcell⟩
  clear hb hh hsz hcell h1 h2
  have c10 : w1.cell? ⟨w.heap.size, 0, none⟩ = some (.int .u64 k) := by simp [World.cell?, d1]
  have c11 : w1.cell? ⟨w.heap.size, 1, none⟩ = some (.int .i64 p) := by simp [World.cell?, d1]
  have c12 : w1.cell? ⟨w.heap.size, 2, none⟩ = some (.slice (some ⟨gs, os, none⟩) 4096 c) := by simp [World.cell?, d1]
  have c20 : w1.cell? ⟨w.heap.size + 1, 0, none⟩ = some (.int .u64 0) := by simp [World.cell?, d2]
  have c21 : w1.cell? ⟨w.heap.size + 1, 1, none⟩ = some (.int .i64 0) := by simp [World.cell?, d2]
  have c22 : w1.cell? ⟨w.heap.size + 1, 2, none⟩ = some (.slice none 0 0) := by simp [World.cell?, d2]
  have f12 : w1.frozen? ⟨w.heap.size, 2, none⟩ = false := by simp [World.frozen?, d1]
  have f20 : w1.frozen? ⟨w.heap.size + 1, 0, none⟩ = false := by simp [World.frozen?, d2]
  have f21 : w1.frozen? ⟨w.heap.size + 1, 1, none⟩ = false := by simp [World.frozen?, d2]
  have f22 : w1.frozen? ⟨w.heap.size + 1, 2, none⟩ = false := by simp [World.frozen?, d2]
  clear d1 d2
  go_wp2
  obtain ⟨h1, h2, h3, h4⟩ := HX.out
  have gl := lt_of_some h2
  have hblk : ∀ (W : World) (b o : Nat) (v : Value), b ≠ g → g < W.heap.size → (W.setCell ⟨b, o, none⟩ v).heap[g]? = W.heap[g]? ∧ g < (W.setCell ⟨b, o, none⟩ v).heap.size := fun W b o v hb hl => ⟨(grownBy_setAny W b o v).block g hl (by intro e; cases e; exact hb rfl), Nat.lt_of_lt_of_le hl (grownBy_setAny W b o v).size⟩
  obtain ⟨q1, r1⟩ := hblk w1 w.heap.size 2 (.slice (some ⟨g, 0, none⟩) 4096 cap) (by omega) gl
  obtain ⟨q2, r2⟩ := hblk _ (w.heap.size + 1) 0 (.int .u64 k) (by omega) r1
  obtain ⟨q3, r3⟩ := hblk _ (w.heap.size + 1) 1 (.int .i64 p) (by omega) r2
  obtain ⟨q4, r4⟩ := hblk _ (w.heap.size + 1) 2 (.slice (some ⟨g, 0, none⟩) 4096 cap) (by omega) r3
  have q := q4.trans (q3.trans (q2.trans q1))
  refine bodyPost_ret (v := .agg #[.int .u64 k, .int .i64 p, .slice (some ⟨g, 0, none⟩) 4096 cap]) (by simp [results, Try.results29, go_sem, c20, c21, c22]) rfl ⟨g, cap, cur, rfl, by omega, hcap, q.trans h2, h3, fun j hj => ?_, ?_⟩
  · simp only [World.cell?, q]; exact h4 j hj
  · exact (((h1.setCell (p := ⟨w.heap.size, 2, none⟩) (Nat.le_refl _) _).setCell (p := ⟨w.heap.size + 1, 0, none⟩) (Nat.le_succ _) _).setCell (p := ⟨w.heap.size + 1, 1, none⟩) (Nat.le_succ _) _).setCell (p := ⟨w.heap.size + 1, 2, none⟩) (Nat.le_succ _) _
/-- Is a number what may be done to a page? -/
def permB (p : Int) : Bool := decide (0 < p) && (decide (p ≤ 7) && (bits .and .i64 p 3 != 3))
set_option maxHeartbeats 1000000 in
theorem perm28 (p : Int) (w : World) : Calls Try.prog 28 #[.int .i64 p] w fun e w' => e = .returned (.bool (permB p)) ∧ w' = w := by
  by_cases h1 : 0 < p
  · by_cases h2 : p ≤ 7
    · go_enter Try.func28, Try.ntmps28
      go_wp2
      all_goals go_ret
      all_goals exact ⟨ret_bool (by simp [permB, h1, h2]), rfl⟩
    · go_enter Try.func28, Try.ntmps28
      go_wp2
      all_goals go_ret
      all_goals exact ⟨ret_bool (by unfold permB; rw [decide_eq_false (p := p ≤ 7) (by omega)]; simp), rfl⟩
  · go_enter Try.func28, Try.ntmps28
    go_wp2
    all_goals go_ret
    all_goals exact ⟨ret_bool (by unfold permB; rw [decide_eq_false (p := 0 < p) (by omega)]; rfl), rfl⟩
end Go.Proofs.Ytndbkkldfinggab
