/- Walks of the statements' first question (small): addi is a word, and back. -/
import Derived.Test.YtndbkkldfinggaaDoorD4
import Derived.Test.YtndbkkldfinggaaDoorFwd
namespace Go.Proofs.YtndbkkldfinggaaDoor
open Go.RowKit
/-- Behind a new block and what came then, all that was there is as it was. -/
theorem belowA {w w1 : World} {o : Obj} (hb : Below (w.alloc o).heap.size (w.alloc o) w1) : Below w.heap.size w w1 :=
  ((Below.refl w.heap.size w).alloc (Nat.le_refl _) o).trans (hb.mono (by simp))
theorem Tab.new {w : World} (h : Tab w) (o : Obj) : Tab (w.alloc o) := h.below ((Below.refl w.heap.size w).alloc (Nat.le_refl _) o)
theorem decode_addi (w : World) (hT : Tab w) : Calls Tryd.prog 13 #[.int .u32 4291887251] w fun e w' => e = .returned (.tuple #[.agg #[.int .i64 22, .int .i64 1, .int .i64 2, .int .i64 0, .int .i64 (-3)], .int .i64 0]) ∧ Below w.heap.size w w' := by
  have e : cF 4291887251 = 22 := by decide
  exact decode13_hit 4291887251 22 (by decide) (by decide) (by decide) (by decide) (fun j a b => by omega) (by decide) w hT
theorem decode_nought (w : World) (hT : Tab w) : Calls Tryd.prog 13 #[.int .u32 0] w fun e w' => e = .returned (.tuple #[.agg #[.int .i64 0, .int .i64 0, .int .i64 0, .int .i64 0, .int .i64 0], .int .i64 10]) ∧ Below w.heap.size w w' := by
  refine decode13_miss 0 (by decide) (by decide) (fun j a b => ?_) w hT
  have e : cF 0 = 63 := by decide
  have e' : cL 0 = 65 := by decide
  have q : j = 63 ∨ j = 64 ∨ j = 65 := by omega
  rcases q with rfl | rfl | rfl <;> decide
theorem encode_addi (w : World) (hT : Tab w) : Calls Tryd.prog 8 #[.agg #[.int .i64 22, .int .i64 1, .int .i64 2, .int .i64 0, .int .i64 (-3)]] w fun e w' => e = .returned (.tuple #[.int .u32 4291887251, .int .i64 0]) ∧ Below w.heap.size w w' :=
  encode8_yes 22 1 2 0 (-3) (by decide) w hT
set_option maxHeartbeats 1000000 in
theorem small12 (w : World) (hT : Tab w) : Calls Tryd.prog 12 #[] w fun e w' => e = .returned (.bool true) ∧ Below w.heap.size w w' := by
  have HT : Hid (Tab w) := hT
  clear hT
  go_enter Tryd.func12, Tryd.ntmps12
  go_wp2_with (first | (go_at_call 8; refine (encode_addi _ (HT.out.new _)).mono ?_; rintro e w1 ⟨rfl, hb⟩; have T1 : Hid (Tab w1) := HT.out.below (belowA hb); obtain ⟨hc, hf⟩ := bcell hb; have hz := hb.size; simp at hz; have HB : Hid (Below w.heap.size w w1) := belowA hb; clear hb))
  have z1 : w.heap.size < w1.heap.size := by omega
  refine (decode_addi _ T1.out).mono ?_
  rintro e w2 ⟨rfl, hb⟩
  have T2 : Hid (Tab w2) := T1.out.below hb
  have HB2 : Hid (Below w.heap.size w w2) := HB.out.trans (hb.mono (by omega))
  obtain ⟨hc2, hf2⟩ := bcell hb
  have z2 : w1.heap.size ≤ w2.heap.size := hb.size
  clear hb
  have z3 : w.heap.size < w2.heap.size := by omega
  have z4 : ¬ w.heap.size = w2.heap.size := by omega
  have z5 : ¬ w2.heap.size = w.heap.size := by omega
  go_wp2_with fail
  refine (decode_nought _ (T2.out.new _)).mono ?_
  rintro e w3 ⟨rfl, hb⟩
  have HB3 : Hid (Below w.heap.size w w3) := HB2.out.trans ((belowA hb).mono (by omega))
  obtain ⟨hc3, hf3⟩ := bcell hb
  have y := hb.size
  simp at y
  clear hb
  have y1 : w2.heap.size < w3.heap.size := by omega
  have y2 : w.heap.size < w3.heap.size := by omega
  have y3 : ¬ w.heap.size = w3.heap.size := by omega
  have y4 : ¬ w2.heap.size = w3.heap.size := by omega
  have y5 : ¬ w3.heap.size = w.heap.size := by omega
  have y6 : ¬ w3.heap.size = w2.heap.size := by omega
  have y7 : w.heap.size < w2.heap.size + 1 := by omega
  go_wp2
  go_ret
  exact ⟨rfl, HB3.out.alloc (by omega) _⟩
end Go.Proofs.YtndbkkldfinggaaDoor
