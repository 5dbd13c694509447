/- The walk of the statement RvEncodes. -/
import Derived.Test.YtndbkkldfinggaaDoorE1
import Derived.Test.YtndbkkldfinggaaDoorG4
import Derived.Deep.RegionHeld3
namespace Go.Proofs.YtndbkkldfinggaaDoor
open Go.RowKit
theorem keep5 {w W W' : World} {v0 v1 v2 v3 v4 : Value} (hs : w.heap.size < W.heap.size) (hb : Below W.heap.size W W') (c0 : W.cell? ⟨w.heap.size, 0, none⟩ = some v0) (c1 : W.cell? ⟨w.heap.size, 1, none⟩ = some v1) (c2 : W.cell? ⟨w.heap.size, 2, none⟩ = some v2) (c3 : W.cell? ⟨w.heap.size, 3, none⟩ = some v3) (c4 : W.cell? ⟨w.heap.size, 4, none⟩ = some v4) :
    W'.cell? ⟨w.heap.size, 0, none⟩ = some v0 ∧ W'.cell? ⟨w.heap.size, 1, none⟩ = some v1 ∧ W'.cell? ⟨w.heap.size, 2, none⟩ = some v2 ∧ W'.cell? ⟨w.heap.size, 3, none⟩ = some v3 ∧ W'.cell? ⟨w.heap.size, 4, none⟩ = some v4 ∧ w.heap.size < W'.heap.size :=
  ⟨(hb.cell (p := ⟨w.heap.size, 0, none⟩) hs).trans c0, (hb.cell (p := ⟨w.heap.size, 1, none⟩) hs).trans c1, (hb.cell (p := ⟨w.heap.size, 2, none⟩) hs).trans c2, (hb.cell (p := ⟨w.heap.size, 3, none⟩) hs).trans c3, (hb.cell (p := ⟨w.heap.size, 4, none⟩) hs).trans c4, Nat.lt_of_lt_of_le hs hb.size⟩
/-- The cells of a box just made. -/
theorem box5 (w : World) (v0 v1 v2 v3 v4 : Value) (t : TypeId) : (w.alloc (.cells #[v0, v1, v2, v3, v4] t)).cell? ⟨w.heap.size, 0, none⟩ = some v0 ∧ (w.alloc (.cells #[v0, v1, v2, v3, v4] t)).cell? ⟨w.heap.size, 1, none⟩ = some v1 ∧ (w.alloc (.cells #[v0, v1, v2, v3, v4] t)).cell? ⟨w.heap.size, 2, none⟩ = some v2 ∧ (w.alloc (.cells #[v0, v1, v2, v3, v4] t)).cell? ⟨w.heap.size, 3, none⟩ = some v3 ∧ (w.alloc (.cells #[v0, v1, v2, v3, v4] t)).cell? ⟨w.heap.size, 4, none⟩ = some v4 ∧ w.heap.size < (w.alloc (.cells #[v0, v1, v2, v3, v4] t)).heap.size :=
  ⟨by go_simp, by go_simp, by go_simp, by go_simp, by go_simp, by simp⟩

set_option maxHeartbeats 2000000 in
theorem encodes_yes (op rd r1 r2 n : Int) (h : rightB op rd r1 r2 n = true) (w : World) (hT : Tab w) :
    Calls Tryd.prog 3 #[.agg #[.int .i64 op, .int .i64 rd, .int .i64 r1, .int .i64 r2, .int .i64 n]] w fun e w' => e = .returned (.bool true) ∧ Below w.heap.size w w' := by
  have HT : Hid (Tab w) := hT
  have HR : Hid (rightB op rd r1 r2 n = true) := h
  clear hT h
  obtain ⟨x, ex⟩ : ∃ x, wordI op rd r1 r2 n = x := ⟨_, rfl⟩
  go_enter Tryd.func3, Tryd.ntmps3
  go_wp2_with fail
  refine (encode8_yes op rd r1 r2 n HR.out _ (HT.out.new _)).mono ?_
  rw [ex]
  rintro e w1 ⟨rfl, hb⟩
  obtain ⟨a0, a1, a2, a3, a4, a5⟩ := box5 w (.int .i64 op) (.int .i64 rd) (.int .i64 r1) (.int .i64 r2) (.int .i64 n) 23
  obtain ⟨c0, c1, c2, c3, c4, c5⟩ := keep5 (w := w) a5 hb a0 a1 a2 a3 a4
  have HB1 : Hid (Below w.heap.size w w1) := belowA hb
  clear a0 a1 a2 a3 a4 a5 hb
  go_wp2_with fail
  refine (encode9_yes op rd r1 r2 n HR.out _).mono ?_
  rw [ex]
  rintro e w2 ⟨rfl, hb⟩
  obtain ⟨d0, d1, d2, d3, d4, d5⟩ := keep5 (w := w) c5 hb c0 c1 c2 c3 c4
  have HB2 : Hid (Below w.heap.size w w2) := HB1.out.trans (hb.mono (by omega))
  have HT2 : Hid (Tab w2) := HT.out.below HB2.out
  clear c0 c1 c2 c3 c4 c5 hb ex HB1
  go_wp2_with fail
  go_region_held3 (fun w' => w'.cell? ⟨w.heap.size, 0, none⟩ = some (.int .i64 op) ∧ w'.cell? ⟨w.heap.size, 1, none⟩ = some (.int .i64 rd) ∧ w'.cell? ⟨w.heap.size, 2, none⟩ = some (.int .i64 r1) ∧ w'.cell? ⟨w.heap.size, 3, none⟩ = some (.int .i64 r2) ∧ w'.cell? ⟨w.heap.size, 4, none⟩ = some (.int .i64 n) ∧ w.heap.size < w'.heap.size) (go_keep)
    (first | (go_at_call 10; refine (check10_yes op rd r1 r2 n HR.out _).mono ?_; rintro e w10 ⟨rfl, hbw10⟩; obtain ⟨_, _, _, _, _, _⟩ := keep5 (w := w) (by first | assumption | (simp; assumption)) hbw10 (by first | assumption | (simp; assumption)) (by first | assumption | (simp; assumption)) (by first | assumption | (simp; assumption)) (by first | assumption | (simp; assumption)) (by first | assumption | (simp; assumption))) | (go_at_call 11; refine (check11_yes op rd r1 r2 n HR.out _).mono ?_; rintro e w11 ⟨rfl, hbw11⟩; obtain ⟨_, _, _, _, _, _⟩ := keep5 (w := w) (by first | assumption | (simp; assumption)) hbw11 (by first | assumption | (simp; assumption)) (by first | assumption | (simp; assumption)) (by first | assumption | (simp; assumption)) (by first | assumption | (simp; assumption)) (by first | assumption | (simp; assumption))) | (go_at_call 12; refine (small12 _ ((Tab.below (w := w2.drew) HT2.out hbw10).below hbw11)).mono ?_; rintro e w12 ⟨rfl, hbw12⟩; obtain ⟨_, _, _, _, _, _⟩ := keep5 (w := w) (by first | assumption | (simp; assumption)) hbw12 (by first | assumption | (simp; assumption)) (by first | assumption | (simp; assumption)) (by first | assumption | (simp; assumption)) (by first | assumption | (simp; assumption)) (by first | assumption | (simp; assumption))))
  go_wp2
  go_ret
  have l1 : w.heap.size ≤ w10.heap.size := Nat.le_trans (Nat.le_of_lt d5) hbw10.size
  have l2 : w.heap.size ≤ w11.heap.size := Nat.le_trans l1 hbw11.size
  exact ⟨rfl, ((HB2.out.drew.trans (hbw10.mono (Nat.le_of_lt d5))).trans (hbw11.mono l1)).trans (hbw12.mono l2)⟩
set_option maxHeartbeats 2000000 in
theorem encodes_no (op rd r1 r2 n : Int) (h : rightB op rd r1 r2 n = false) (w : World) (hT : Tab w) :
    Calls Tryd.prog 3 #[.agg #[.int .i64 op, .int .i64 rd, .int .i64 r1, .int .i64 r2, .int .i64 n]] w fun e w' => e = .returned (.bool true) ∧ Below w.heap.size w w' := by
  have HT : Hid (Tab w) := hT
  have HR : Hid (rightB op rd r1 r2 n = false) := h
  clear hT h
  go_enter Tryd.func3, Tryd.ntmps3
  go_wp2_with fail
  refine (encode8_no op rd r1 r2 n HR.out _).mono ?_
  rintro e w1 ⟨rfl, hb⟩
  obtain ⟨a0, a1, a2, a3, a4, a5⟩ := box5 w (.int .i64 op) (.int .i64 rd) (.int .i64 r1) (.int .i64 r2) (.int .i64 n) 23
  obtain ⟨c0, c1, c2, c3, c4, c5⟩ := keep5 (w := w) a5 hb a0 a1 a2 a3 a4
  have HB1 : Hid (Below w.heap.size w w1) := belowA hb
  clear a0 a1 a2 a3 a4 a5 hb
  go_wp2_with fail
  refine (encode9_no op rd r1 r2 n HR.out _).mono ?_
  rintro e w2 ⟨rfl, hb⟩
  obtain ⟨d0, d1, d2, d3, d4, d5⟩ := keep5 (w := w) c5 hb c0 c1 c2 c3 c4
  have HB2 : Hid (Below w.heap.size w w2) := HB1.out.trans (hb.mono (by omega))
  have HT2 : Hid (Tab w2) := HT.out.below HB2.out
  clear c0 c1 c2 c3 c4 c5 hb HB1
  go_wp2_with fail
  go_region_held3 (fun w' => w'.cell? ⟨w.heap.size, 0, none⟩ = some (.int .i64 op) ∧ w'.cell? ⟨w.heap.size, 1, none⟩ = some (.int .i64 rd) ∧ w'.cell? ⟨w.heap.size, 2, none⟩ = some (.int .i64 r1) ∧ w'.cell? ⟨w.heap.size, 3, none⟩ = some (.int .i64 r2) ∧ w'.cell? ⟨w.heap.size, 4, none⟩ = some (.int .i64 n) ∧ w.heap.size < w'.heap.size) (go_keep)
    (first | (go_at_call 10; refine (check10_no op rd r1 r2 n HR.out _).mono ?_; rintro e w10 ⟨rfl, hbw10⟩; obtain ⟨_, _, _, _, _, _⟩ := keep5 (w := w) (by first | assumption | (simp; assumption)) hbw10 (by first | assumption | (simp; assumption)) (by first | assumption | (simp; assumption)) (by first | assumption | (simp; assumption)) (by first | assumption | (simp; assumption)) (by first | assumption | (simp; assumption))) | (go_at_call 11; refine (check11_no op rd r1 r2 n HR.out _).mono ?_; rintro e w11 ⟨rfl, hbw11⟩; obtain ⟨_, _, _, _, _, _⟩ := keep5 (w := w) (by first | assumption | (simp; assumption)) hbw11 (by first | assumption | (simp; assumption)) (by first | assumption | (simp; assumption)) (by first | assumption | (simp; assumption)) (by first | assumption | (simp; assumption)) (by first | assumption | (simp; assumption))) | (go_at_call 12; refine (small12 _ ((Tab.below (w := w2.drew) HT2.out hbw10).below hbw11)).mono ?_; rintro e w12 ⟨rfl, hbw12⟩; obtain ⟨_, _, _, _, _, _⟩ := keep5 (w := w) (by first | assumption | (simp; assumption)) hbw12 (by first | assumption | (simp; assumption)) (by first | assumption | (simp; assumption)) (by first | assumption | (simp; assumption)) (by first | assumption | (simp; assumption)) (by first | assumption | (simp; assumption))))
  go_wp2
  go_ret
  have l1 : w.heap.size ≤ w10.heap.size := Nat.le_trans (Nat.le_of_lt d5) hbw10.size
  have l2 : w.heap.size ≤ w11.heap.size := Nat.le_trans l1 hbw11.size
  exact ⟨rfl, ((HB2.out.drew.trans (hbw10.mono (Nat.le_of_lt d5))).trans (hbw11.mono l1)).trans (hbw12.mono l2)⟩
theorem encodes (op rd r1 r2 n : Int) (w : World) (hT : Tab w) : Calls Tryd.prog 3 #[.agg #[.int .i64 op, .int .i64 rd, .int .i64 r1, .int .i64 r2, .int .i64 n]] w fun e w' => e = .returned (.bool true) ∧ Below w.heap.size w w' := by
  cases h : rightB op rd r1 r2 n
  · exact encodes_no op rd r1 r2 n h w hT
  · exact encodes_yes op rd r1 r2 n h w hT
end Go.Proofs.YtndbkkldfinggaaDoor
