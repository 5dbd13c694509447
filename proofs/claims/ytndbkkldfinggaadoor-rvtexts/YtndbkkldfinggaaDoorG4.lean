/- What the document's Word and Encode answer at every instruction. -/
import Derived.Test.YtndbkkldfinggaaDoorWa
import Derived.Test.YtndbkkldfinggaaDoorWb
import Derived.Test.YtndbkkldfinggaaDoorWc
import Derived.Test.YtndbkkldfinggaaDoorWd
import Derived.Test.YtndbkkldfinggaaDoorWe
import Derived.Test.YtndbkkldfinggaaDoorWf
import Derived.Test.YtndbkkldfinggaaDoorG2
import Derived.Test.YtndbkkldfinggaaDoorChain2
namespace Go.Proofs.YtndbkkldfinggaaDoor
open Go.RowKit
theorem word27 (op rd r1 r2 n : Int) (h : rightB op rd r1 r2 n = true) (w : World) :
    Calls Tryd.prog 27 #[.agg #[.int .i64 op, .int .i64 rd, .int .i64 r1, .int .i64 r2, .int .i64 n]] w fun e w' => e = .returned (.int .u32 (wordI op rd r1 r2 n)) ∧ Below w.heap.size w w' := by
  obtain ⟨o1, o2⟩ := ops_of_right h
  obtain ⟨-, hr, hn⟩ := right_parts h
  obtain ⟨⟨d0, d1⟩, ⟨a0, a1⟩, ⟨b0, b1⟩, ⟨n0, n1⟩⟩ := right_ranges h
  have hrel := rel_of o1 o2

  have hf := rfP_of o1 o2
  have hR := isR_of op
  unfold wordI
  clear h
  obtain ⟨c, ec⟩ : ∃ c, nth cdL op = c := ⟨_, rfl⟩
  obtain ⟨f, ef⟩ : ∃ c, nth f3L op = c := ⟨_, rfl⟩
  obtain ⟨g, eg⟩ : ∃ c, nth f7L op = c := ⟨_, rfl⟩
  obtain ⟨x, ex⟩ : ∃ c, nth fxL op = c := ⟨_, rfl⟩
  obtain ⟨l, el⟩ : ∃ c, nth plL op = c := ⟨_, rfl⟩
  rw [ec, ef, eg, ex] at hf
  rw [el] at hr hn hrel ⊢
  rw [ex]
  clear ex el o1 o2
  obtain ⟨c0, c1, f0, f1, g0, g1, hx, k1, k2, k3, k4⟩ := hf
  rcases hR with er | er | er | er | er | er | er | er | er | er <;> rw [er] at hrel k1 k2 k3 k4 <;> simp [Rel, pOf] at hrel k1 k2 k3 k4
  · subst hrel
    simp [regB, nRd, nR1, nR2] at hr
    obtain ⟨rfl, rfl⟩ := k2
    obtain ⟨⟨_, rfl⟩, rfl⟩ := hr
    have t := word27_U op rd 0 0 n w c 0 0 (baseI c 0 rd 0 0) ec ef eg er c0 c1 (by omega) (by omega) (by omega) (by omega) (by omega) (by omega) (by omega) (by omega) (by omega) (by omega) n0 n1 (base_or c0 k1 (by omega) (by omega) (by omega) (by omega) (by omega) (by omega) (by omega) (by omega))
    rw [chain_U (n := n) c0 k1 d0 d1] at t
    rw [hx]; exact t
  · subst hrel
    simp [regB, nRd, nR1, nR2] at hr
    obtain ⟨rfl, rfl⟩ := k2
    obtain ⟨⟨_, rfl⟩, rfl⟩ := hr
    have t := word27_J op rd 0 0 n w c 0 0 (baseI c 0 rd 0 0) ec ef eg er c0 c1 (by omega) (by omega) (by omega) (by omega) (by omega) (by omega) (by omega) (by omega) (by omega) (by omega) n0 n1 (base_or c0 k1 (by omega) (by omega) (by omega) (by omega) (by omega) (by omega) (by omega) (by omega))
    rw [chain_J (n := n) c0 k1 d0 d1] at t
    rw [hx]; exact t
  · have hl : l = 73 ∨ l = 76 := by omega
    obtain rfl : g = 0 := k3
    have hr2 : r2 = 0 := by
      rcases hl with rfl | rfl <;> simp [regB, nRd, nR1, nR2] at hr <;> omega
    subst hr2
    have t := word27_I op rd r1 0 n w c f 0 (baseI c f rd r1 0) ec ef eg er c0 c1 (by omega) (by omega) (by omega) (by omega) (by omega) (by omega) (by omega) (by omega) (by omega) (by omega) n0 n1 (base_or c0 k1 (by omega) (by omega) (by omega) (by omega) (by omega) (by omega) (by omega) (by omega))
    rw [chain_I (n := n) c0 k1 f0 f1 d0 d1 a0 a1 l hl] at t
    rw [hx]; exact t
  · subst hrel
    simp [regB, nRd, nR1, nR2] at hr
    simp [numB, loN, hiN, stN] at hn
    obtain ⟨_, rfl⟩ := hr
    have t := word27_H op rd r1 0 n w c f g (baseI c f rd r1 0) ec ef eg er c0 c1 (by omega) (by omega) (by omega) (by omega) (by omega) (by omega) (by omega) (by omega) (by omega) (by omega) (by omega) (by omega) (base_or c0 k1 (by omega) (by omega) (by omega) (by omega) (by omega) (by omega) (by omega) (by omega))
    rw [chain_H (n := n) c0 k1 f0 f1 g0 g1 d0 d1 a0 a1 k4 (by omega) (by omega) 72 (by omega)] at t
    rw [hx]; exact t
  · subst hrel
    simp [regB, nRd, nR1, nR2] at hr
    simp [numB, loN, hiN, stN] at hn
    obtain ⟨_, rfl⟩ := hr
    have t := word27_W op rd r1 0 n w c f g (baseI c f rd r1 0) ec ef eg er c0 c1 (by omega) (by omega) (by omega) (by omega) (by omega) (by omega) (by omega) (by omega) (by omega) (by omega) (by omega) (by omega) (base_or c0 k1 (by omega) (by omega) (by omega) (by omega) (by omega) (by omega) (by omega) (by omega))
    rw [chain_H (n := n) c0 k1 f0 f1 g0 g1 d0 d1 a0 a1 k4 (by omega) (by omega) 87 (by omega)] at t
    rw [hx]; exact t
  · subst hrel
    simp [regB, nRd, nR1, nR2] at hr
    clear hn
    have t := word27_R op rd r1 r2 n w c f g (baseI c f rd r1 r2) ec ef eg er c0 c1 (by omega) (by omega) (by omega) (by omega) (by omega) (by omega) (by omega) (by omega) (by omega) (by omega) n0 n1 (base_or c0 k1 (by omega) (by omega) (by omega) (by omega) (by omega) (by omega) (by omega) (by omega))
    rw [chain_R (n := n) c0 k1 f0 f1 g0 g1 d0 d1 a0 a1 b0 b1] at t
    rw [hx]; exact t
  · subst hrel
    simp [regB, nRd, nR1, nR2] at hr
    obtain rfl : g = 0 := k3
    obtain ⟨⟨rfl, _⟩, _⟩ := hr
    have t := word27_S op 0 r1 r2 n w c f 0 (baseI c f 0 r1 r2) ec ef eg er c0 c1 (by omega) (by omega) (by omega) (by omega) (by omega) (by omega) (by omega) (by omega) (by omega) (by omega) n0 n1 (base_or c0 k1 (by omega) (by omega) (by omega) (by omega) (by omega) (by omega) (by omega) (by omega))
    rw [chain_S (n := n) c0 k1 f0 f1 a0 a1 b0 b1] at t
    rw [hx]; exact t
  · subst hrel
    simp [regB, nRd, nR1, nR2] at hr
    obtain rfl : g = 0 := k3
    obtain ⟨⟨rfl, _⟩, _⟩ := hr
    have t := word27_B op 0 r1 r2 n w c f 0 (baseI c f 0 r1 r2) ec ef eg er c0 c1 (by omega) (by omega) (by omega) (by omega) (by omega) (by omega) (by omega) (by omega) (by omega) (by omega) n0 n1 (base_or c0 k1 (by omega) (by omega) (by omega) (by omega) (by omega) (by omega) (by omega) (by omega))
    rw [chain_B (n := n) c0 k1 f0 f1 a0 a1 b0 b1] at t
    rw [hx]; exact t
  · subst hrel
    simp [regB, nRd, nR1, nR2] at hr
    simp [numB, loN, hiN, stN] at hn
    obtain ⟨rfl, rfl⟩ := k2
    obtain ⟨⟨rfl, rfl⟩, rfl⟩ := hr
    have hB : bits .or .u32 (bits .or .u32 (bits .or .u32 (bits .or .u32 c (0 * 4096)) (0 * 128)) (0 * 32768)) (0 * 1048576) = c := by
      simp only [Int.zero_mul, or_nought c c0 c1]
    have t := word27_N op 0 0 0 n w c 0 0 c ec ef eg er c0 c1 (by omega) (by omega) (by omega) (by omega) (by omega) (by omega) (by omega) (by omega) (by omega) (by omega) n0 n1 hB
    have e : spr 78 (n % 4294967296) = 0 := rfl
    rw [hx, e]
    simpa using t

set_option maxHeartbeats 600000 in
theorem encode9_no (op rd r1 r2 n : Int) (h : rightB op rd r1 r2 n = false) (w : World) :
    Calls Tryd.prog 9 #[.agg #[.int .i64 op, .int .i64 rd, .int .i64 r1, .int .i64 r2, .int .i64 n]] w fun e w' => e = .returned (.tuple #[.int .u32 0, .int .i64 11]) ∧ Below w.heap.size w w' := by
  go_enter Tryd.func9, Tryd.ntmps9
  go_wp2_with (first | (go_at_call 24; refine (right24 op rd r1 r2 n _).mono ?_; rw [h]; rintro e w1 ⟨rfl, hb⟩))
  all_goals go_ret2
  all_goals exact ⟨rfl, ((Below.refl _ _).alloc (Nat.le_refl _) _).trans (hb.mono (by simp))⟩
set_option maxHeartbeats 600000 in
theorem encode9_yes (op rd r1 r2 n : Int) (h : rightB op rd r1 r2 n = true) (w : World) :
    Calls Tryd.prog 9 #[.agg #[.int .i64 op, .int .i64 rd, .int .i64 r1, .int .i64 r2, .int .i64 n]] w fun e w' => e = .returned (.tuple #[.int .u32 (wordI op rd r1 r2 n), .int .i64 0]) ∧ Below w.heap.size w w' := by
  go_enter Tryd.func9, Tryd.ntmps9
  go_wp2_with (first | (go_at_call 24; refine (right24 op rd r1 r2 n _).mono ?_; rw [h]; rintro e w1 ⟨rfl, hb⟩; obtain ⟨hc, hf⟩ := bcell hb) | (go_at_call 27; refine (word27 op rd r1 r2 n h _).mono ?_; rintro e w2 ⟨rfl, hb2⟩))
  all_goals go_ret2
  all_goals exact ⟨rfl, (((Below.refl _ _).alloc (Nat.le_refl _) _).trans (hb.mono (by simp))).trans (hb2.mono (by have := hb.size; simp at this; omega))⟩
end Go.Proofs.YtndbkkldfinggaaDoor
