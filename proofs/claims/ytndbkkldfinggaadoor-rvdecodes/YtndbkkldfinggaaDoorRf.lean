/- Walks of the document's guess at some forms: what it answers. -/
import Derived.Test.YtndbkkldfinggaaDoorR1
namespace Go.Proofs.YtndbkkldfinggaaDoor
open Go.RowKit
set_option maxRecDepth 20000 in
set_option maxHeartbeats 2000000 in
theorem guess33_S (op n : Int) (er : nth rlL op = 83) (h0 : 0 ≤ n) (h1 : n < 4294967296) (w : World) :
    Calls Tryd.prog 33 #[.int .i64 op, .int .u32 n] w fun e w' => e = .returned (.agg #[.int .i64 op, .int .i64 (0), .int .i64 (n / 32768 % 32), .int .i64 (n / 1048576 % 32), .int .i64 (gth 83 n)]) ∧ Below w.heap.size w w' := by
  have e0 := bw_7_5 n
  have e1 := bw_25_7 n
  have e2 := bw_15_5 n
  have e3 := bw_20_5 n
  have hx := raw_S n
  obtain ⟨b0, b1⟩ : 0 ≤ raw 83 n ∧ raw 83 n < 4096 := by
    have e : raw 83 n = n / 128 % 32 + n / 33554432 % 128 * 32 := rfl
    omega
  have eg : gth 83 n = sg 12 (raw 83 n) := rfl
  rw [eg]
  clear eg
  generalize raw 83 n = x at *
  go_enter Tryd.func33, Tryd.ntmps33
  go_wp2_with (first | (go_at_call 37; refine (formOf37 op _).mono ?_; rw [er]; rintro e w1 ⟨rfl, hb⟩; have HB : Hid (Below w.heap.size w w1) := belowA0 hb; obtain ⟨q0, r0⟩ := five0 hb 0 (by omega); obtain ⟨q1, r1⟩ := five0 hb 1 (by omega); obtain ⟨q2, r2⟩ := five0 hb 2 (by omega); obtain ⟨q3, r3⟩ := five0 hb 3 (by omega); obtain ⟨q4, r4⟩ := five0 hb 4 (by omega); have z := hb.size; simp at z; have z1 : ¬ w.heap.size = w1.heap.size := (by omega); have z2 : ¬ w1.heap.size = w.heap.size := (by omega); have z3 : w.heap.size < w1.heap.size := (by omega); have z4 : ¬ w.heap.size = w1.heap.size + 1 := (by omega); have z5 : ¬ w1.heap.size + 1 = w.heap.size := (by omega); clear hb) | (go_at_call 39; refine (has39 83 (by unfold IsR; omega) _).mono ?_; rw [show nRd (pOf 83) = false from rfl, show nR1 (pOf 83) = true from rfl, show nR2 (pOf 83) = true from rfl]; rintro e w' ⟨rfl, rfl⟩) | (go_at_call 48; refine (part48 n _ _ (by unfold Pw; decide) h0 h1 _).mono ?_; rintro e w' ⟨rfl, rfl⟩) | (go_at_call 49; refine (signed49_12 x b0 b1 _).mono ?_; rintro e w' ⟨rfl, rfl⟩))
  refine bodyPost_ret (v := .agg #[.int .i64 op, .int .i64 (0), .int .i64 (n / 32768 % 32), .int .i64 (n / 1048576 % 32), .int .i64 (sg 12 x)]) (by simp [results, Tryd.results33, go_sem, q0, q1, q2, q3, q4, z3]) rfl ⟨rfl, ?_⟩
  iterate 2 refine Below.alloc ?_ (by simp <;> omega) _
  iterate 5 refine Below.setCell ?_ (by simp) _
  exact HB.out
end Go.Proofs.YtndbkkldfinggaaDoor
