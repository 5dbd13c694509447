/- The walk of the statement RvBack. -/
import Derived.Test.YtndbkkldfinggaaDoorE2
namespace Go.Proofs.YtndbkkldfinggaaDoor
open Go.RowKit
/-- Decode of a word of an operation. -/
theorem decode13_mt (m k : Int) (m0 : 0 ≤ m) (m1 : m < 4294967296) (k1 : 1 ≤ k) (k2 : k ≤ 65) (hk : mt k m = true) (w : World) (hT : Tab w) :
    Calls Tryd.prog 13 #[.int .u32 m] w fun e w' => e = .returned (.tuple #[.agg #[.int .i64 k, .int .i64 (gRd (nth plL k) m), .int .i64 (gR1 (nth plL k) m), .int .i64 (gR2 (nth plL k) m), .int .i64 (gth (nth plL k) m)], .int .i64 0]) ∧ Below w.heap.size w w' := by
  obtain ⟨a, b, c⟩ := grp k1 k2 m0 m1 hk
  exact decode13_hit m k m0 m1 a b c hk w hT
/-- Decode of a right instruction's word. -/
theorem decode13_word {op rd r1 r2 n : Int} (h : rightB op rd r1 r2 n = true) (w : World) (hT : Tab w) :
    Calls Tryd.prog 13 #[.int .u32 (wordI op rd r1 r2 n)] w fun e w' => e = .returned (.tuple #[.agg #[.int .i64 op, .int .i64 rd, .int .i64 r1, .int .i64 r2, .int .i64 n], .int .i64 0]) ∧ Below w.heap.size w w' := by
  obtain ⟨o1, o2⟩ := ops_of_right h
  obtain ⟨x0, x1, -, e1, e2, e3, e4⟩ := write_read h
  have t := decode13_mt _ op x0 x1 o1 o2 (mt_word h) w hT
  rw [e1, e2, e3, e4] at t
  exact t
set_option maxHeartbeats 2000000 in
theorem back_yes_hit (op rd r1 r2 n m : Int) (h : rightB op rd r1 r2 n = true) (m0 : 0 ≤ m) (m1 : m < 4294967296) (k : Int) (k1 : 1 ≤ k) (k2 : k ≤ 65) (hk : mt k m = true) (w : World) (hT : Tab w) :
    Calls Tryd.prog 6 #[.agg #[.int .i64 op, .int .i64 rd, .int .i64 r1, .int .i64 r2, .int .i64 n], .int .u32 m] w fun e w' => e = .returned (.bool true) ∧ Below w.heap.size w w' := by
  have HT : Hid (Tab w) := hT
  have HR : Hid (rightB op rd r1 r2 n = true) := h
  obtain ⟨hq, hw⟩ := read_right k1 k2 m0 m1 hk
  have HQ := decode13_mt m k m0 m1 k1 k2 hk
  generalize gRd (nth plL k) m = y1 at *
  generalize gR1 (nth plL k) m = y2 at *
  generalize gR2 (nth plL k) m = y3 at *
  generalize gth (nth plL k) m = y4 at *
  have HE : Hid (∀ (W : World), Tab W → Calls Tryd.prog 8 #[.agg #[.int .i64 k, .int .i64 y1, .int .i64 y2, .int .i64 y3, .int .i64 y4]] W fun e w' => e = .returned (.tuple #[.int .u32 m, .int .i64 0]) ∧ Below W.heap.size W w') := fun W hW => by
    have t := encode8_yes k y1 y2 y3 y4 hq W hW
    rw [hw] at t
    exact t
  have HD : Hid (∀ (W : World), Tab W → Calls Tryd.prog 13 #[.int .u32 m] W fun e w' => e = .returned (.tuple #[.agg #[.int .i64 k, .int .i64 y1, .int .i64 y2, .int .i64 y3, .int .i64 y4], .int .i64 0]) ∧ Below W.heap.size W w') := HQ
  clear hT h hk hq hw HQ
  have HX : Hid (∀ (W : World), Tab W → Calls Tryd.prog 13 #[.int .u32 (wordI op rd r1 r2 n)] W fun e w' => e = .returned (.tuple #[.agg #[.int .i64 op, .int .i64 rd, .int .i64 r1, .int .i64 r2, .int .i64 n], .int .i64 0]) ∧ Below W.heap.size W w') := fun W hW => decode13_word HR.out W hW
  have H8 : Hid (∀ (W : World), Tab W → Calls Tryd.prog 8 #[.agg #[.int .i64 op, .int .i64 rd, .int .i64 r1, .int .i64 r2, .int .i64 n]] W fun e w' => e = .returned (.tuple #[.int .u32 (wordI op rd r1 r2 n), .int .i64 0]) ∧ Below W.heap.size W w') := fun W hW => encode8_yes op rd r1 r2 n HR.out W hW
  generalize wordI op rd r1 r2 n = x at *
  go_enter Tryd.func6, Tryd.ntmps6
  go_wp2_with fail
  refine (H8.out _ (HT.out.new _)).mono ?_
  rintro e w1 ⟨rfl, hb⟩
  obtain ⟨a0, a1, a2, a3, a4, a5⟩ := box5 w (.int .i64 op) (.int .i64 rd) (.int .i64 r1) (.int .i64 r2) (.int .i64 n) 23
  obtain ⟨c0, c1, c2, c3, c4, c5⟩ := keep5 (w := w) a5 hb a0 a1 a2 a3 a4
  have HB1 : Hid (Below w.heap.size w w1) := belowA hb
  clear a0 a1 a2 a3 a4 a5 hb
  go_wp2_with fail
  refine (right24 op rd r1 r2 n _).mono ?_
  rw [HR.out]
  rintro e w2 ⟨rfl, hb⟩
  obtain ⟨d0, d1, d2, d3, d4, d5⟩ := keep5 (w := w) c5 hb c0 c1 c2 c3 c4
  have HB2 : Hid (Below w.heap.size w w2) := HB1.out.trans (hb.mono (by omega))
  clear c0 c1 c2 c3 c4 c5 hb HB1
  go_wp2_with fail
  refine (HX.out _ (HT.out.below HB2.out)).mono ?_
  rintro e w3 ⟨rfl, hb⟩
  obtain ⟨c0, c1, c2, c3, c4, c5⟩ := keep5 (w := w) d5 hb d0 d1 d2 d3 d4
  have HB3 : Hid (Below w.heap.size w w3) := HB2.out.trans (hb.mono (by omega))
  have z1 : ¬ w.heap.size = w3.heap.size := by omega
  have z2 : ¬ w3.heap.size = w.heap.size := by omega
  clear d0 d1 d2 d3 d4 d5 hb HB2
  go_wp2_with fail
  refine (HD.out _ ((HT.out.below HB3.out).new _)).mono ?_
  rintro e w4 ⟨rfl, hb⟩
  have HB4 : Hid (Below w.heap.size w w4) := HB3.out.trans ((belowA hb).mono (by omega))
  have l4 : w.heap.size < w4.heap.size := by have := (belowA hb).size; omega
  clear c0 c1 c2 c3 c4 hb HB3 z1 z2
  go_wp2_with fail
  refine (HE.out _ ((HT.out.below HB4.out).new _)).mono ?_
  rintro e w5 ⟨rfl, hb⟩
  have HB5 : Hid (Below w.heap.size w w5) := HB4.out.trans ((belowA hb).mono (by omega))
  have l5 : w.heap.size < w5.heap.size := by have := (belowA hb).size; omega
  clear hb HB4 l4
  go_wp2_with fail
  refine (small12 _ (HT.out.below HB5.out)).mono ?_
  rintro e w6 ⟨rfl, hb⟩
  go_wp2
  go_ret
  exact ⟨rfl, HB5.out.trans (hb.mono (by omega))⟩
set_option maxHeartbeats 2000000 in
theorem back_yes_miss (op rd r1 r2 n m : Int) (h : rightB op rd r1 r2 n = true) (m0 : 0 ≤ m) (m1 : m < 4294967296) (hk : ∀ k, 1 ≤ k → k ≤ 65 → mt k m = false) (w : World) (hT : Tab w) :
    Calls Tryd.prog 6 #[.agg #[.int .i64 op, .int .i64 rd, .int .i64 r1, .int .i64 r2, .int .i64 n], .int .u32 m] w fun e w' => e = .returned (.bool true) ∧ Below w.heap.size w w' := by
  have HT : Hid (Tab w) := hT
  have HR : Hid (rightB op rd r1 r2 n = true) := h
  have HD : Hid (∀ (W : World), Tab W → Calls Tryd.prog 13 #[.int .u32 m] W fun e w' => e = .returned (.tuple #[.agg #[.int .i64 0, .int .i64 0, .int .i64 0, .int .i64 0, .int .i64 0], .int .i64 10]) ∧ Below W.heap.size W w') :=
    fun W hW => decode13_miss m m0 m1 (fun j a b => hk j (by have := cF_pos m; omega) (by have := cL_le m; omega)) W hW
  clear hT h hk
  have HX : Hid (∀ (W : World), Tab W → Calls Tryd.prog 13 #[.int .u32 (wordI op rd r1 r2 n)] W fun e w' => e = .returned (.tuple #[.agg #[.int .i64 op, .int .i64 rd, .int .i64 r1, .int .i64 r2, .int .i64 n], .int .i64 0]) ∧ Below W.heap.size W w') := fun W hW => decode13_word HR.out W hW
  have H8 : Hid (∀ (W : World), Tab W → Calls Tryd.prog 8 #[.agg #[.int .i64 op, .int .i64 rd, .int .i64 r1, .int .i64 r2, .int .i64 n]] W fun e w' => e = .returned (.tuple #[.int .u32 (wordI op rd r1 r2 n), .int .i64 0]) ∧ Below W.heap.size W w') := fun W hW => encode8_yes op rd r1 r2 n HR.out W hW
  generalize wordI op rd r1 r2 n = x at *
  go_enter Tryd.func6, Tryd.ntmps6
  go_wp2_with fail
  refine (H8.out _ (HT.out.new _)).mono ?_
  rintro e w1 ⟨rfl, hb⟩
  obtain ⟨a0, a1, a2, a3, a4, a5⟩ := box5 w (.int .i64 op) (.int .i64 rd) (.int .i64 r1) (.int .i64 r2) (.int .i64 n) 23
  obtain ⟨c0, c1, c2, c3, c4, c5⟩ := keep5 (w := w) a5 hb a0 a1 a2 a3 a4
  have HB1 : Hid (Below w.heap.size w w1) := belowA hb
  clear a0 a1 a2 a3 a4 a5 hb
  go_wp2_with fail
  refine (right24 op rd r1 r2 n _).mono ?_
  rw [HR.out]
  rintro e w2 ⟨rfl, hb⟩
  obtain ⟨d0, d1, d2, d3, d4, d5⟩ := keep5 (w := w) c5 hb c0 c1 c2 c3 c4
  have HB2 : Hid (Below w.heap.size w w2) := HB1.out.trans (hb.mono (by omega))
  clear c0 c1 c2 c3 c4 c5 hb HB1
  go_wp2_with fail
  refine (HX.out _ (HT.out.below HB2.out)).mono ?_
  rintro e w3 ⟨rfl, hb⟩
  obtain ⟨c0, c1, c2, c3, c4, c5⟩ := keep5 (w := w) d5 hb d0 d1 d2 d3 d4
  have HB3 : Hid (Below w.heap.size w w3) := HB2.out.trans (hb.mono (by omega))
  have z1 : ¬ w.heap.size = w3.heap.size := by omega
  have z2 : ¬ w3.heap.size = w.heap.size := by omega
  clear d0 d1 d2 d3 d4 d5 hb HB2
  go_wp2_with fail
  refine (HD.out _ ((HT.out.below HB3.out).new _)).mono ?_
  rintro e w4 ⟨rfl, hb⟩
  have HB4 : Hid (Below w.heap.size w w4) := HB3.out.trans ((belowA hb).mono (by omega))
  have l4 : w.heap.size < w4.heap.size := by have := (belowA hb).size; omega
  clear c0 c1 c2 c3 c4 hb HB3 z1 z2
  go_wp2_with fail
  refine (small12 _ ((HT.out.below HB4.out).new _)).mono ?_
  rintro e w6 ⟨rfl, hb⟩
  go_wp2
  go_ret
  exact ⟨rfl, HB4.out.trans ((belowA hb).mono (by omega))⟩
set_option maxHeartbeats 2000000 in
theorem back_no_hit (op rd r1 r2 n m : Int) (h : rightB op rd r1 r2 n = false) (m0 : 0 ≤ m) (m1 : m < 4294967296) (k : Int) (k1 : 1 ≤ k) (k2 : k ≤ 65) (hk : mt k m = true) (w : World) (hT : Tab w) :
    Calls Tryd.prog 6 #[.agg #[.int .i64 op, .int .i64 rd, .int .i64 r1, .int .i64 r2, .int .i64 n], .int .u32 m] w fun e w' => e = .returned (.bool true) ∧ Below w.heap.size w w' := by
  have HT : Hid (Tab w) := hT
  have HR : Hid (rightB op rd r1 r2 n = false) := h
  obtain ⟨hq, hw⟩ := read_right k1 k2 m0 m1 hk
  have HQ := decode13_mt m k m0 m1 k1 k2 hk
  generalize gRd (nth plL k) m = y1 at *
  generalize gR1 (nth plL k) m = y2 at *
  generalize gR2 (nth plL k) m = y3 at *
  generalize gth (nth plL k) m = y4 at *
  have HE : Hid (∀ (W : World), Tab W → Calls Tryd.prog 8 #[.agg #[.int .i64 k, .int .i64 y1, .int .i64 y2, .int .i64 y3, .int .i64 y4]] W fun e w' => e = .returned (.tuple #[.int .u32 m, .int .i64 0]) ∧ Below W.heap.size W w') := fun W hW => by
    have t := encode8_yes k y1 y2 y3 y4 hq W hW
    rw [hw] at t
    exact t
  have HD : Hid (∀ (W : World), Tab W → Calls Tryd.prog 13 #[.int .u32 m] W fun e w' => e = .returned (.tuple #[.agg #[.int .i64 k, .int .i64 y1, .int .i64 y2, .int .i64 y3, .int .i64 y4], .int .i64 0]) ∧ Below W.heap.size W w') := HQ
  clear hT h hk hq hw HQ
  go_enter Tryd.func6, Tryd.ntmps6
  go_wp2_with fail
  refine (encode8_no op rd r1 r2 n HR.out _).mono ?_
  rintro e w1 ⟨rfl, hb⟩
  obtain ⟨a0, a1, a2, a3, a4, a5⟩ := box5 w (.int .i64 op) (.int .i64 rd) (.int .i64 r1) (.int .i64 r2) (.int .i64 n) 23
  obtain ⟨c0, c1, c2, c3, c4, c5⟩ := keep5 (w := w) a5 hb a0 a1 a2 a3 a4
  have HB1 : Hid (Below w.heap.size w w1) := belowA hb
  clear a0 a1 a2 a3 a4 a5 hb
  go_wp2_with fail
  refine (right24 op rd r1 r2 n _).mono ?_
  rw [HR.out]
  rintro e w2 ⟨rfl, hb⟩
  obtain ⟨d0, d1, d2, d3, d4, d5⟩ := keep5 (w := w) c5 hb c0 c1 c2 c3 c4
  have HB2 : Hid (Below w.heap.size w w2) := HB1.out.trans (hb.mono (by omega))
  clear c0 c1 c2 c3 c4 c5 hb HB1
  go_wp2_with fail
  refine (HD.out _ (HT.out.below HB2.out)).mono ?_
  rintro e w4 ⟨rfl, hb⟩
  have HB4 : Hid (Below w.heap.size w w4) := HB2.out.trans (hb.mono (by omega))
  have l4 : w.heap.size < w4.heap.size := by have := hb.size; omega
  clear d0 d1 d2 d3 d4 hb HB2
  go_wp2_with fail
  refine (HE.out _ ((HT.out.below HB4.out).new _)).mono ?_
  rintro e w5 ⟨rfl, hb⟩
  have HB5 : Hid (Below w.heap.size w w5) := HB4.out.trans ((belowA hb).mono (by omega))
  have l5 : w.heap.size < w5.heap.size := by have := (belowA hb).size; omega
  clear hb HB4 l4
  go_wp2_with fail
  refine (small12 _ (HT.out.below HB5.out)).mono ?_
  rintro e w6 ⟨rfl, hb⟩
  go_wp2
  go_ret
  exact ⟨rfl, HB5.out.trans (hb.mono (by omega))⟩
set_option maxHeartbeats 2000000 in
theorem back_no_miss (op rd r1 r2 n m : Int) (h : rightB op rd r1 r2 n = false) (m0 : 0 ≤ m) (m1 : m < 4294967296) (hk : ∀ k, 1 ≤ k → k ≤ 65 → mt k m = false) (w : World) (hT : Tab w) :
    Calls Tryd.prog 6 #[.agg #[.int .i64 op, .int .i64 rd, .int .i64 r1, .int .i64 r2, .int .i64 n], .int .u32 m] w fun e w' => e = .returned (.bool true) ∧ Below w.heap.size w w' := by
  have HT : Hid (Tab w) := hT
  have HR : Hid (rightB op rd r1 r2 n = false) := h
  have HD : Hid (∀ (W : World), Tab W → Calls Tryd.prog 13 #[.int .u32 m] W fun e w' => e = .returned (.tuple #[.agg #[.int .i64 0, .int .i64 0, .int .i64 0, .int .i64 0, .int .i64 0], .int .i64 10]) ∧ Below W.heap.size W w') :=
    fun W hW => decode13_miss m m0 m1 (fun j a b => hk j (by have := cF_pos m; omega) (by have := cL_le m; omega)) W hW
  clear hT h hk
  go_enter Tryd.func6, Tryd.ntmps6
  go_wp2_with fail
  refine (encode8_no op rd r1 r2 n HR.out _).mono ?_
  rintro e w1 ⟨rfl, hb⟩
  obtain ⟨a0, a1, a2, a3, a4, a5⟩ := box5 w (.int .i64 op) (.int .i64 rd) (.int .i64 r1) (.int .i64 r2) (.int .i64 n) 23
  obtain ⟨c0, c1, c2, c3, c4, c5⟩ := keep5 (w := w) a5 hb a0 a1 a2 a3 a4
  have HB1 : Hid (Below w.heap.size w w1) := belowA hb
  clear a0 a1 a2 a3 a4 a5 hb
  go_wp2_with fail
  refine (right24 op rd r1 r2 n _).mono ?_
  rw [HR.out]
  rintro e w2 ⟨rfl, hb⟩
  obtain ⟨d0, d1, d2, d3, d4, d5⟩ := keep5 (w := w) c5 hb c0 c1 c2 c3 c4
  have HB2 : Hid (Below w.heap.size w w2) := HB1.out.trans (hb.mono (by omega))
  clear c0 c1 c2 c3 c4 c5 hb HB1
  go_wp2_with fail
  refine (HD.out _ (HT.out.below HB2.out)).mono ?_
  rintro e w4 ⟨rfl, hb⟩
  have HB4 : Hid (Below w.heap.size w w4) := HB2.out.trans (hb.mono (by omega))
  have l4 : w.heap.size < w4.heap.size := by have := hb.size; omega
  clear d0 d1 d2 d3 d4 hb HB2
  go_wp2_with fail
  refine (small12 _ ((HT.out.below HB4.out).new _)).mono ?_
  rintro e w6 ⟨rfl, hb⟩
  go_wp2
  go_ret
  exact ⟨rfl, HB4.out.trans ((belowA hb).mono (by omega))⟩

theorem back (op rd r1 r2 n m : Int) (m0 : 0 ≤ m) (m1 : m < 4294967296) (w : World) (hT : Tab w) :
    Calls Tryd.prog 6 #[.agg #[.int .i64 op, .int .i64 rd, .int .i64 r1, .int .i64 r2, .int .i64 n], .int .u32 m] w fun e w' => e = .returned (.bool true) ∧ Below w.heap.size w w' := by
  by_cases hk : ∃ k, 1 ≤ k ∧ k ≤ 65 ∧ mt k m = true
  · obtain ⟨k, k1, k2, hk⟩ := hk
    cases h : rightB op rd r1 r2 n
    · exact back_no_hit op rd r1 r2 n m h m0 m1 k k1 k2 hk w hT
    · exact back_yes_hit op rd r1 r2 n m h m0 m1 k k1 k2 hk w hT
  · have hk' : ∀ k, 1 ≤ k → k ≤ 65 → mt k m = false := fun k k1 k2 => Bool.eq_false_iff.2 fun g => hk ⟨k, k1, k2, g⟩
    cases h : rightB op rd r1 r2 n
    · exact back_no_miss op rd r1 r2 n m h m0 m1 hk' w hT
    · exact back_yes_miss op rd r1 r2 n m h m0 m1 hk' w hT
end Go.Proofs.YtndbkkldfinggaaDoor
