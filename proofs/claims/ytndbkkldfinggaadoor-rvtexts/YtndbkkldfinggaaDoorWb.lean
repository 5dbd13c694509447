/- Walks of the document's Word at some forms: what it answers. -/
import Derived.Test.YtndbkkldfinggaaDoorG1
import Derived.Deep.QuietTactic
import Derived.BigQuiet
import Derived.WalkSmall
namespace Go.Proofs.YtndbkkldfinggaaDoor
open Go.RowKit
set_option maxRecDepth 20000 in
set_option maxHeartbeats 3000000 in
theorem word27_H (op rd r1 r2 n : Int) (w : World) (c f g B : Int) (ec : nth cdL op = c) (ef : nth f3L op = f) (eg : nth f7L op = g) (er : nth rlL op = 72) (_c0 : 0 ≤ c) (_c1 : c < 4294967296) (f0 : 0 ≤ f) (f1 : f < 8) (_g0 : 0 ≤ g) (_g1 : g < 128)
    (d0 : 0 ≤ rd) (d1 : rd ≤ 31) (a0 : 0 ≤ r1) (a1 : r1 ≤ 31) (b0 : 0 ≤ r2) (b1 : r2 ≤ 31) (_n0 : 0 ≤ n) (_n1 : n ≤ 63)
    (hB : bits .or .u32 (bits .or .u32 (bits .or .u32 (bits .or .u32 (c) (f * 4096)) (rd * 128)) (r1 * 32768)) (r2 * 1048576) = B) :
    Calls Tryd.prog 27 #[.agg #[.int .i64 op, .int .i64 rd, .int .i64 r1, .int .i64 r2, .int .i64 n]] w fun e w' => e = .returned (.int .u32 (bits .or .u32 (bits .or .u32 (B) (g * 33554432)) (n * 1048576))) ∧ Below w.heap.size w w' := by
  go_enter Tryd.func27, Tryd.ntmps27
  go_wp2_with (first | (go_at_call 37; refine (formOf37 op _).mono ?_; rw [ec, ef, eg, er]; rintro e w1 ⟨rfl, hb⟩; obtain ⟨hc, hf⟩ := bcell hb; have hz := hb.size; simp at hz; have hz1 : ¬ w.heap.size = w1.heap.size := (by omega); have hz2 : ¬ w1.heap.size = w.heap.size := (by omega); have hz3 : w.heap.size < w1.heap.size := (by omega)))
  go_ret
  exact ⟨rfl, (((Below.refl _ _).alloc (Nat.le_refl _) _).trans (hb.mono (by simp))).alloc (by omega) _⟩
set_option maxRecDepth 20000 in
set_option maxHeartbeats 3000000 in
theorem word27_W (op rd r1 r2 n : Int) (w : World) (c f g B : Int) (ec : nth cdL op = c) (ef : nth f3L op = f) (eg : nth f7L op = g) (er : nth rlL op = 104) (_c0 : 0 ≤ c) (_c1 : c < 4294967296) (f0 : 0 ≤ f) (f1 : f < 8) (_g0 : 0 ≤ g) (_g1 : g < 128)
    (d0 : 0 ≤ rd) (d1 : rd ≤ 31) (a0 : 0 ≤ r1) (a1 : r1 ≤ 31) (b0 : 0 ≤ r2) (b1 : r2 ≤ 31) (_n0 : 0 ≤ n) (_n1 : n ≤ 63)
    (hB : bits .or .u32 (bits .or .u32 (bits .or .u32 (bits .or .u32 (c) (f * 4096)) (rd * 128)) (r1 * 32768)) (r2 * 1048576) = B) :
    Calls Tryd.prog 27 #[.agg #[.int .i64 op, .int .i64 rd, .int .i64 r1, .int .i64 r2, .int .i64 n]] w fun e w' => e = .returned (.int .u32 (bits .or .u32 (bits .or .u32 (B) (g * 33554432)) (n * 1048576))) ∧ Below w.heap.size w w' := by
  go_enter Tryd.func27, Tryd.ntmps27
  go_wp2_with (first | (go_at_call 37; refine (formOf37 op _).mono ?_; rw [ec, ef, eg, er]; rintro e w1 ⟨rfl, hb⟩; obtain ⟨hc, hf⟩ := bcell hb; have hz := hb.size; simp at hz; have hz1 : ¬ w.heap.size = w1.heap.size := (by omega); have hz2 : ¬ w1.heap.size = w.heap.size := (by omega); have hz3 : w.heap.size < w1.heap.size := (by omega)))
  go_ret
  exact ⟨rfl, (((Below.refl _ _).alloc (Nat.le_refl _) _).trans (hb.mono (by simp))).alloc (by omega) _⟩
end Go.Proofs.YtndbkkldfinggaaDoor
