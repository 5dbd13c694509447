/- Walks of the document's Word at some forms: what it answers. -/
import Derived.Test.YtndbkkldfinggaaDoorG1
import Derived.Deep.QuietTactic
import Derived.BigQuiet
import Derived.WalkSmall
namespace Go.Proofs.YtndbkkldfinggaaDoor
open Go.RowKit
set_option maxRecDepth 20000 in
set_option maxHeartbeats 1000000 in
theorem word27_J (op rd r1 r2 n : Int) (w : World) (c f g B : Int) (ec : nth cdL op = c) (ef : nth f3L op = f) (eg : nth f7L op = g) (er : nth rlL op = 74) (_c0 : 0 ≤ c) (_c1 : c < 4294967296) (f0 : 0 ≤ f) (f1 : f < 8) (_g0 : 0 ≤ g) (_g1 : g < 128)
    (d0 : 0 ≤ rd) (d1 : rd ≤ 31) (a0 : 0 ≤ r1) (a1 : r1 ≤ 31) (b0 : 0 ≤ r2) (b1 : r2 ≤ 31) (_n0 : -1048576 ≤ n) (_n1 : n ≤ 1048574)
    (hB : bits .or .u32 (bits .or .u32 (bits .or .u32 (bits .or .u32 (c) (f * 4096)) (rd * 128)) (r1 * 32768)) (r2 * 1048576) = B) :
    Calls Tryd.prog 27 #[.agg #[.int .i64 op, .int .i64 rd, .int .i64 r1, .int .i64 r2, .int .i64 n]] w fun e w' => e = .returned (.int .u32 (bits .or .u32 (bits .or .u32 (bits .or .u32 (bits .or .u32 (B) (n / 4096 % 256 * 4096)) (n / 2048 % 2 * 1048576)) (n / 2 % 1024 * 2097152)) (n / 1048576 % 2 * 2147483648))) ∧ Below w.heap.size w w' := by
  have e0 := bv_12_8 n
  have e1 := bv_11_1 n
  have e2 := bv_1_10 n
  have e3 := bv_20_1 n
  go_enter Tryd.func27, Tryd.ntmps27
  go_wp2_with (first | (go_at_call 37; refine (formOf37 op _).mono ?_; rw [ec, ef, eg, er]; rintro e w1 ⟨rfl, hb⟩; obtain ⟨hc, hf⟩ := bcell hb; have hz := hb.size; simp at hz; have hz1 : ¬ w.heap.size = w1.heap.size := (by omega); have hz2 : ¬ w1.heap.size = w.heap.size := (by omega); have hz3 : w.heap.size < w1.heap.size := (by omega)))
  go_quiet ((go_at_call 43; exact Calls.quiet_of_same (bits43 n _ _ (by unfold Pr; decide) _)))
  go_wp2
  go_ret
  exact ⟨rfl, (((Below.refl _ _).alloc (Nat.le_refl _) _).trans (hb.mono (by simp))).alloc (by omega) _ |> fun h => below_drewN h _⟩
end Go.Proofs.YtndbkkldfinggaaDoor
