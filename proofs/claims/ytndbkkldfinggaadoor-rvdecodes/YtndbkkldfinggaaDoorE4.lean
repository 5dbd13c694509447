/- The walk of the statement RvDecodes. -/
import Derived.Test.YtndbkkldfinggaaDoorE3
import Derived.Test.YtndbkkldfinggaaDoorRa
import Derived.Test.YtndbkkldfinggaaDoorRb
import Derived.Test.YtndbkkldfinggaaDoorRc
import Derived.Test.YtndbkkldfinggaaDoorRd
import Derived.Test.YtndbkkldfinggaaDoorRe
import Derived.Test.YtndbkkldfinggaaDoorRf
import Derived.Test.YtndbkkldfinggaaDoorRg
namespace Go.Proofs.YtndbkkldfinggaaDoor
open Go.RowKit
/-- What the document's guess answers. -/
theorem guess33 (op n : Int) (o1 : 1 ≤ op) (o2 : op ≤ 65) (h0 : 0 ≤ n) (h1 : n < 4294967296) (w : World) :
    Calls Tryd.prog 33 #[.int .i64 op, .int .u32 n] w fun e w' => e = .returned (.agg #[.int .i64 op, .int .i64 (gRd (nth plL op) n), .int .i64 (gR1 (nth plL op) n), .int .i64 (gR2 (nth plL op) n), .int .i64 (gth (nth plL op) n)]) ∧ Below w.heap.size w w' := by
  have hrel := rel_of o1 o2
  have hR := isR_of op
  obtain ⟨l, el⟩ : ∃ l, nth plL op = l := ⟨_, rfl⟩
  rw [el] at hrel ⊢
  clear el o1 o2
  rcases hR with er | er | er | er | er | er | er | er | er | er <;> rw [er] at hrel <;> simp [Rel, pOf] at hrel
  · subst hrel; exact guess33_U op n er h0 h1 w
  · subst hrel; exact guess33_J op n er h0 h1 w
  · have hl : l = 73 ∨ l = 76 := by omega
    rcases hl with rfl | rfl <;> exact guess33_I op n er h0 h1 w
  · subst hrel; exact guess33_H op n er h0 h1 w
  · subst hrel; exact guess33_W op n er h0 h1 w
  · subst hrel; exact guess33_R op n er h0 h1 w
  · subst hrel; exact guess33_S op n er h0 h1 w
  · subst hrel; exact guess33_B op n er h0 h1 w
  · subst hrel; exact guess33_N op n er h0 h1 w
/-- A guess is right; it has that word just where the word is one of the operation's. -/
theorem guess_mt {k n : Int} (k1 : 1 ≤ k) (k2 : k ≤ 65) (h0 : 0 ≤ n) (h1 : n < 4294967296) :
    rightB k (gRd (nth plL k) n) (gR1 (nth plL k) n) (gR2 (nth plL k) n) (gth (nth plL k) n) = true ∧ (wordI k (gRd (nth plL k) n) (gR1 (nth plL k) n) (gR2 (nth plL k) n) (gth (nth plL k) n) == n) = mt k n := by
  have hl := isL_of k1 k2
  have hr : rightB k (gRd (nth plL k) n) (gR1 (nth plL k) n) (gR2 (nth plL k) n) (gth (nth plL k) n) = true := by
    unfold rightB
    rw [back_regs, back_num _ _ hl]
    simpa using isL_ne hl
  refine ⟨hr, ?_⟩
  cases hm : mt k n
  · rw [beq_eq_false_iff_ne]
    intro e
    have t := mt_word hr
    rw [e, hm] at t
    cases t
  · rw [beq_iff_eq]
    exact (read_right k1 k2 h0 h1 hm).2

set_option maxHeartbeats 2000000 in
theorem decode14_hit (n k : Int) (h0 : 0 ≤ n) (h1 : n < 4294967296) (k1 : 1 ≤ k) (k2 : k ≤ 65) (hk : mt k n = true) (w : World) :
    Calls Tryd.prog 14 #[.int .u32 n] w fun e w' => e = .returned (.tuple #[.agg #[.int .i64 k, .int .i64 (gRd (nth plL k) n), .int .i64 (gR1 (nth plL k) n), .int .i64 (gR2 (nth plL k) n), .int .i64 (gth (nth plL k) n)], .int .i64 0]) ∧ Below w.heap.size w w' := by
  have HY : Hid (mt k n = true) := hk
  clear hk
  obtain ⟨hq, hy⟩ := guess_mt k1 k2 h0 h1
  have HG := guess33 k n k1 k2 h0 h1
  generalize gRd (nth plL k) n = y1 at *
  generalize gR1 (nth plL k) n = y2 at *
  generalize gR2 (nth plL k) n = y3 at *
  generalize gth (nth plL k) n = y4 at *
  have HGk : Hid (∀ (W : World), Calls Tryd.prog 33 #[.int .i64 k, .int .u32 n] W fun e w' => e = .returned (.agg #[.int .i64 k, .int .i64 y1, .int .i64 y2, .int .i64 y3, .int .i64 y4]) ∧ Below W.heap.size W w') := HG
  have HQ : Hid (rightB k y1 y2 y3 y4 = true ∧ (wordI k y1 y2 y3 y4 == n) = mt k n) := ⟨hq, hy⟩
  clear hq hy HG
  go_enter Tryd.func14, Tryd.ntmps14
  go_wp2
  go_loopw [4] (fun v wq => ∃ j : Int, 1 ≤ j ∧ j ≤ k ∧ v = .int .i64 j ∧ Below (w.alloc (.cells #[.int .i64 0, .int .i64 0, .int .i64 0, .int .i64 0, .int .i64 0] 23)).heap.size (w.alloc (.cells #[.int .i64 0, .int .i64 0, .int .i64 0, .int .i64 0, .int .i64 0] 23)) wq) (fun v _ => (66 - intOf v).toNat)
  case atStart => exact ⟨1, by omega, by omega, rfl, Below.refl _ _⟩
  case round =>
    obtain ⟨j, j3, j2, rfl, hb0⟩ := hrel
    have hz0 := hb0.size
    simp at hz0
    have j4 : j ≤ 65 := by omega
    by_cases hjk : j = k
    · subst hjk
      have hm : mt j n = true := HY.out
      clear HY
      obtain ⟨hq, hy⟩ := HQ.out
      have HG' := HGk
      clear HQ HGk
      have HR : Hid (∀ (W : World), Calls Tryd.prog 24 #[.agg #[.int .i64 j, .int .i64 y1, .int .i64 y2, .int .i64 y3, .int .i64 y4]] W fun e w' => e = .returned (.bool true) ∧ Below W.heap.size W w') := fun W => by
        have t := right24 j y1 y2 y3 y4 W
        rw [hq] at t
        exact t
      have HW : Hid (∀ (W : World), Calls Tryd.prog 27 #[.agg #[.int .i64 j, .int .i64 y1, .int .i64 y2, .int .i64 y3, .int .i64 y4]] W fun e w' => e = .returned (.int .u32 (wordI j y1 y2 y3 y4)) ∧ Below W.heap.size W w') := fun W => word27 j y1 y2 y3 y4 hq W
      rw [hm] at hy
      generalize wordI j y1 y2 y3 y4 = x at *
      clear hq hm
      go_wp2_with fail
      refine (HG'.out _).mono ?_
      rintro e w1 ⟨rfl, hb1⟩
      go_wp2_with fail
      refine (HR.out _).mono ?_
      rintro e w2 ⟨rfl, hb2⟩
      obtain ⟨a0, a1, a2, a3, a4, a5⟩ := box5 w1 (.int .i64 j) (.int .i64 y1) (.int .i64 y2) (.int .i64 y3) (.int .i64 y4) 23
      obtain ⟨c0, c1, c2, c3, c4, c5⟩ := keep5 (w := w1) a5 hb2 a0 a1 a2 a3 a4
      clear a0 a1 a2 a3 a4 a5
      go_wp2_with fail
      refine (HW.out _).mono ?_
      rintro e w3 ⟨rfl, hb3⟩
      obtain ⟨d0, d1, d2, d3, d4, d5⟩ := keep5 (w := w1) c5 hb3 c0 c1 c2 c3 c4
      clear c0 c1 c2 c3 c4
      have hbb : Below (w.alloc (.cells #[.int .i64 0, .int .i64 0, .int .i64 0, .int .i64 0, .int .i64 0] 23)).heap.size (w.alloc (.cells #[.int .i64 0, .int .i64 0, .int .i64 0, .int .i64 0, .int .i64 0] 23)) w3 := ((hb0.trans (hb1.mono (by simp; omega))).trans ((belowA hb2).mono (by have := hb1.size; simp; omega))).trans (hb3.mono (by have := hb1.size; have := hb2.size; simp at *; omega))
      obtain ⟨q0, r0⟩ := five hbb 0 (by omega)
      obtain ⟨q1, r1⟩ := five hbb 1 (by omega)
      obtain ⟨q2, r2⟩ := five hbb 2 (by omega)
      obtain ⟨q3, r3⟩ := five hbb 3 (by omega)
      obtain ⟨q4, r4⟩ := five hbb 4 (by omega)
      go_wp2
      refine bodyPost_ret (v := .tuple #[.agg #[.int .i64 j, .int .i64 y1, .int .i64 y2, .int .i64 y3, .int .i64 y4], .int .i64 0]) (by simp [results, Tryd.results14, go_sem, q0, q1, q2, q3, q4]) rfl ⟨rfl, ?_⟩
      iterate 5 refine Below.setCell ?_ (by simp) _
      exact ((Below.refl _ _).alloc (Nat.le_refl _) _).trans (hbb.mono (by simp))
    · have hm : mt j n = false := Bool.eq_false_iff.2 fun g => hjk (mt_one j3 j4 k1 k2 h0 h1 g HY.out)
      clear HQ HGk HY
      obtain ⟨hq, hy⟩ := guess_mt j3 j4 h0 h1
      have HG := guess33 j n j3 j4 h0 h1
      generalize gRd (nth plL j) n = y1 at *
      generalize gR1 (nth plL j) n = y2 at *
      generalize gR2 (nth plL j) n = y3 at *
      generalize gth (nth plL j) n = y4 at *
      have HG' : Hid (∀ (W : World), Calls Tryd.prog 33 #[.int .i64 j, .int .u32 n] W fun e w' => e = .returned (.agg #[.int .i64 j, .int .i64 y1, .int .i64 y2, .int .i64 y3, .int .i64 y4]) ∧ Below W.heap.size W w') := HG
      have HR : Hid (∀ (W : World), Calls Tryd.prog 24 #[.agg #[.int .i64 j, .int .i64 y1, .int .i64 y2, .int .i64 y3, .int .i64 y4]] W fun e w' => e = .returned (.bool true) ∧ Below W.heap.size W w') := fun W => by
        have t := right24 j y1 y2 y3 y4 W
        rw [hq] at t
        exact t
      have HW : Hid (∀ (W : World), Calls Tryd.prog 27 #[.agg #[.int .i64 j, .int .i64 y1, .int .i64 y2, .int .i64 y3, .int .i64 y4]] W fun e w' => e = .returned (.int .u32 (wordI j y1 y2 y3 y4)) ∧ Below W.heap.size W w') := fun W => word27 j y1 y2 y3 y4 hq W
      rw [hm] at hy
      generalize wordI j y1 y2 y3 y4 = x at *
      clear hq HG hm
      go_wp2_with fail
      refine (HG'.out _).mono ?_
      rintro e w1 ⟨rfl, hb1⟩
      go_wp2_with fail
      refine (HR.out _).mono ?_
      rintro e w2 ⟨rfl, hb2⟩
      obtain ⟨a0, a1, a2, a3, a4, a5⟩ := box5 w1 (.int .i64 j) (.int .i64 y1) (.int .i64 y2) (.int .i64 y3) (.int .i64 y4) 23
      obtain ⟨c0, c1, c2, c3, c4, c5⟩ := keep5 (w := w1) a5 hb2 a0 a1 a2 a3 a4
      clear a0 a1 a2 a3 a4 a5
      go_wp2_with fail
      refine (HW.out _).mono ?_
      rintro e w3 ⟨rfl, hb3⟩
      obtain ⟨d0, d1, d2, d3, d4, d5⟩ := keep5 (w := w1) c5 hb3 c0 c1 c2 c3 c4
      clear c0 c1 c2 c3 c4
      have hbb : Below (w.alloc (.cells #[.int .i64 0, .int .i64 0, .int .i64 0, .int .i64 0, .int .i64 0] 23)).heap.size (w.alloc (.cells #[.int .i64 0, .int .i64 0, .int .i64 0, .int .i64 0, .int .i64 0] 23)) w3 := ((hb0.trans (hb1.mono (by simp; omega))).trans ((belowA hb2).mono (by have := hb1.size; simp; omega))).trans (hb3.mono (by have := hb1.size; have := hb2.size; simp at *; omega))
      go_wp2
      go_roundw
      case rel => exact ⟨j + 1, by omega, by omega, by go_num, hbb⟩
      case measure => simp [intOf]; omega

set_option maxHeartbeats 2000000 in
theorem decode14_miss (n : Int) (h0 : 0 ≤ n) (h1 : n < 4294967296) (hk : ∀ k, 1 ≤ k → k ≤ 65 → mt k n = false) (w : World) :
    Calls Tryd.prog 14 #[.int .u32 n] w fun e w' => e = .returned (.tuple #[.agg #[.int .i64 0, .int .i64 0, .int .i64 0, .int .i64 0, .int .i64 0], .int .i64 10]) ∧ Below w.heap.size w w' := by
  have HN : Hid (∀ k, 1 ≤ k → k ≤ 65 → mt k n = false) := hk
  clear hk
  go_enter Tryd.func14, Tryd.ntmps14
  go_wp2
  go_loopw [4] (fun v wq => ∃ j : Int, 1 ≤ j ∧ j ≤ 66 ∧ v = .int .i64 j ∧ Below (w.alloc (.cells #[.int .i64 0, .int .i64 0, .int .i64 0, .int .i64 0, .int .i64 0] 23)).heap.size (w.alloc (.cells #[.int .i64 0, .int .i64 0, .int .i64 0, .int .i64 0, .int .i64 0] 23)) wq) (fun v _ => (67 - intOf v).toNat)
  case atStart => exact ⟨1, by omega, by omega, rfl, Below.refl _ _⟩
  case round =>
    obtain ⟨j, j3, j2, rfl, hb0⟩ := hrel
    have hz0 := hb0.size
    simp at hz0
    by_cases j4 : j ≤ 65
    · have hm : mt j n = false := HN.out j j3 j4
      obtain ⟨hq, hy⟩ := guess_mt j3 j4 h0 h1
      have HG := guess33 j n j3 j4 h0 h1
      generalize gRd (nth plL j) n = y1 at *
      generalize gR1 (nth plL j) n = y2 at *
      generalize gR2 (nth plL j) n = y3 at *
      generalize gth (nth plL j) n = y4 at *
      have HG' : Hid (∀ (W : World), Calls Tryd.prog 33 #[.int .i64 j, .int .u32 n] W fun e w' => e = .returned (.agg #[.int .i64 j, .int .i64 y1, .int .i64 y2, .int .i64 y3, .int .i64 y4]) ∧ Below W.heap.size W w') := HG
      have HR : Hid (∀ (W : World), Calls Tryd.prog 24 #[.agg #[.int .i64 j, .int .i64 y1, .int .i64 y2, .int .i64 y3, .int .i64 y4]] W fun e w' => e = .returned (.bool true) ∧ Below W.heap.size W w') := fun W => by
        have t := right24 j y1 y2 y3 y4 W
        rw [hq] at t
        exact t
      have HW : Hid (∀ (W : World), Calls Tryd.prog 27 #[.agg #[.int .i64 j, .int .i64 y1, .int .i64 y2, .int .i64 y3, .int .i64 y4]] W fun e w' => e = .returned (.int .u32 (wordI j y1 y2 y3 y4)) ∧ Below W.heap.size W w') := fun W => word27 j y1 y2 y3 y4 hq W
      rw [hm] at hy
      generalize wordI j y1 y2 y3 y4 = x at *
      clear hq HG hm
      go_wp2_with fail
      refine (HG'.out _).mono ?_
      rintro e w1 ⟨rfl, hb1⟩
      go_wp2_with fail
      refine (HR.out _).mono ?_
      rintro e w2 ⟨rfl, hb2⟩
      obtain ⟨a0, a1, a2, a3, a4, a5⟩ := box5 w1 (.int .i64 j) (.int .i64 y1) (.int .i64 y2) (.int .i64 y3) (.int .i64 y4) 23
      obtain ⟨c0, c1, c2, c3, c4, c5⟩ := keep5 (w := w1) a5 hb2 a0 a1 a2 a3 a4
      clear a0 a1 a2 a3 a4 a5
      go_wp2_with fail
      refine (HW.out _).mono ?_
      rintro e w3 ⟨rfl, hb3⟩
      obtain ⟨d0, d1, d2, d3, d4, d5⟩ := keep5 (w := w1) c5 hb3 c0 c1 c2 c3 c4
      clear c0 c1 c2 c3 c4
      have hbb : Below (w.alloc (.cells #[.int .i64 0, .int .i64 0, .int .i64 0, .int .i64 0, .int .i64 0] 23)).heap.size (w.alloc (.cells #[.int .i64 0, .int .i64 0, .int .i64 0, .int .i64 0, .int .i64 0] 23)) w3 := ((hb0.trans (hb1.mono (by simp; omega))).trans ((belowA hb2).mono (by have := hb1.size; simp; omega))).trans (hb3.mono (by have := hb1.size; have := hb2.size; simp at *; omega))
      go_wp2
      go_roundw
      case rel => exact ⟨j + 1, by omega, by omega, by go_num, hbb⟩
      case measure => simp [intOf]; omega
    · obtain ⟨q0, r0⟩ := five hb0 0 (by omega)
      obtain ⟨q1, r1⟩ := five hb0 1 (by omega)
      obtain ⟨q2, r2⟩ := five hb0 2 (by omega)
      obtain ⟨q3, r3⟩ := five hb0 3 (by omega)
      obtain ⟨q4, r4⟩ := five hb0 4 (by omega)
      go_wp2
      refine bodyPost_ret (v := .tuple #[.agg #[.int .i64 0, .int .i64 0, .int .i64 0, .int .i64 0, .int .i64 0], .int .i64 10]) (by simp [results, Tryd.results14, go_sem, q0, q1, q2, q3, q4]) rfl ⟨rfl, ?_⟩
      iterate 5 refine Below.setCell ?_ (by simp) _
      exact ((Below.refl _ _).alloc (Nat.le_refl _) _).trans (hb0.mono (by simp))

set_option maxHeartbeats 2000000 in
/-- Where both read the same, the statement's answer is true. -/
theorem decodes_same (m y0 y1 y2 y3 y4 e : Int) (w : World) (hT : Tab w)
    (H1 : Hid (∀ (W : World), Tab W → Calls Tryd.prog 13 #[.int .u32 m] W fun r w' => r = .returned (.tuple #[.agg #[.int .i64 y0, .int .i64 y1, .int .i64 y2, .int .i64 y3, .int .i64 y4], .int .i64 e]) ∧ Below W.heap.size W w'))
    (H2 : Hid (∀ (W : World), Calls Tryd.prog 14 #[.int .u32 m] W fun r w' => r = .returned (.tuple #[.agg #[.int .i64 y0, .int .i64 y1, .int .i64 y2, .int .i64 y3, .int .i64 y4], .int .i64 e]) ∧ Below W.heap.size W w')) :
    Calls Tryd.prog 4 #[.int .u32 m] w fun e w' => e = .returned (.bool true) ∧ Below w.heap.size w w' := by
  have HT : Hid (Tab w) := hT
  clear hT
  go_enter Tryd.func4, Tryd.ntmps4
  go_wp2_with fail
  refine (H1.out _ HT.out).mono ?_
  rintro r w1 ⟨rfl, hb1⟩
  go_wp2_with fail
  refine (H2.out _).mono ?_
  rintro r w2 ⟨rfl, hb2⟩
  obtain ⟨a0, a1, a2, a3, a4, a5⟩ := box5 w1 (.int .i64 y0) (.int .i64 y1) (.int .i64 y2) (.int .i64 y3) (.int .i64 y4) 23
  obtain ⟨c0, c1, c2, c3, c4, c5⟩ := keep5 (w := w1) a5 hb2 a0 a1 a2 a3 a4
  have HB2 : Hid (Below w.heap.size w w2) := hb1.trans ((belowA hb2).mono hb1.size)
  have l2 : w.heap.size ≤ w2.heap.size := HB2.out.size
  have z1 : ¬ w1.heap.size = w2.heap.size := by omega
  have z2 : ¬ w2.heap.size = w1.heap.size := by omega
  clear a0 a1 a2 a3 a4 a5 hb1 hb2
  go_wp2_with fail
  refine (small12 _ ((HT.out.below HB2.out).new _)).mono ?_
  rintro r w3 ⟨rfl, hb3⟩
  go_wp2
  go_ret
  exact ⟨rfl, HB2.out.trans ((belowA hb3).mono l2)⟩

theorem decodes (m : Int) (m0 : 0 ≤ m) (m1 : m < 4294967296) (w : World) (hT : Tab w) :
    Calls Tryd.prog 4 #[.int .u32 m] w fun e w' => e = .returned (.bool true) ∧ Below w.heap.size w w' := by
  by_cases hk : ∃ k, 1 ≤ k ∧ k ≤ 65 ∧ mt k m = true
  · obtain ⟨k, k1, k2, hk⟩ := hk
    exact decodes_same m _ _ _ _ _ _ w hT (fun W hW => decode13_mt m k m0 m1 k1 k2 hk W hW) (fun W => decode14_hit m k m0 m1 k1 k2 hk W)
  · have hk' : ∀ k, 1 ≤ k → k ≤ 65 → mt k m = false := fun k k1 k2 => Bool.eq_false_iff.2 fun g => hk ⟨k, k1, k2, g⟩
    exact decodes_same m _ _ _ _ _ _ w hT (fun W hW => decode13_miss m m0 m1 (fun j a b => hk' j (by have := cF_pos m; omega) (by have := cL_le m; omega)) W hW) (fun W => decode14_miss m m0 m1 hk' W)
end Go.Proofs.YtndbkkldfinggaaDoor
