/- Walks of the document's Right and Check: what each answers. -/
import Derived.Test.YtndbkkldfinggaaDoorG1
namespace Go.Proofs.YtndbkkldfinggaaDoor
open Go.RowKit
set_option maxHeartbeats 600000 in
theorem right24_none (op rd r1 r2 n : Int) (h0 : nth rlL op = 0) (w : World) :
    Calls Tryd.prog 24 #[.agg #[.int .i64 op, .int .i64 rd, .int .i64 r1, .int .i64 r2, .int .i64 n]] w fun e w' => e = .returned (.bool false) ∧ Below w.heap.size w w' := by
  go_enter Tryd.func24, Tryd.ntmps24
  go_wp2_with (first | (go_at_call 37; refine (formOf37 op _).mono ?_; rintro e w1 ⟨rfl, hb⟩; obtain ⟨hc, hf⟩ := bcell hb; have hz := hb.size; simp at hz; have hz1 : ¬ w.heap.size = w1.heap.size := (by omega); have hz2 : ¬ w1.heap.size = w.heap.size := (by omega); have hz3 : w.heap.size < w1.heap.size := (by omega)) | (go_at_call 39; refine (has39 0 (Or.inl rfl) _).mono ?_; rintro e w' ⟨rfl, rfl⟩))
  all_goals go_ret
  all_goals exact ⟨rfl, (((Below.refl _ _).alloc (Nat.le_refl _) _).trans (hb.mono (by simp))).alloc (by omega) _⟩

set_option maxHeartbeats 1000000 in
theorem right24_some (op rd r1 r2 n : Int) (hr : IsR (nth rlL op)) (h0 : (nth rlL op == 0) = false) (w : World) :
    Calls Tryd.prog 24 #[.agg #[.int .i64 op, .int .i64 rd, .int .i64 r1, .int .i64 r2, .int .i64 n]] w fun e w' => e = .returned (.bool (regB (nRd (pOf (nth rlL op))) rd && regB (nR1 (pOf (nth rlL op))) r1 && regB (nR2 (pOf (nth rlL op))) r2 && numB (pOf (nth rlL op)) n)) ∧ Below w.heap.size w w' := by
  have h0' : (nth rlL op != 0) = true := by simpa using h0
  go_enter Tryd.func24, Tryd.ntmps24
  go_wp2_with (first | (go_at_call 37; refine (formOf37 op _).mono ?_; rintro e w1 ⟨rfl, hb⟩; obtain ⟨hc, hf⟩ := bcell hb; have hz := hb.size; simp at hz; have hz1 : ¬ w.heap.size = w1.heap.size := (by omega); have hz2 : ¬ w1.heap.size = w.heap.size := (by omega); have hz3 : w.heap.size < w1.heap.size := (by omega)) | (go_at_call 39; refine (has39 (nth rlL op) hr _).mono ?_; rintro e w' ⟨rfl, rfl⟩) | (go_at_call 40; refine (reg40 _ _ _).mono ?_; rintro e w' ⟨rfl, rfl⟩) | (go_at_call 41; refine (imm41 (nth rlL op) n hr _).mono ?_; rintro e w' ⟨rfl, rfl⟩))
  all_goals go_ret
  all_goals exact ⟨ret_bool (by simp [*]), (((Below.refl _ _).alloc (Nat.le_refl _) _).trans (hb.mono (by simp))).alloc (by omega) _⟩

theorem right24 (op rd r1 r2 n : Int) (w : World) :
    Calls Tryd.prog 24 #[.agg #[.int .i64 op, .int .i64 rd, .int .i64 r1, .int .i64 r2, .int .i64 n]] w fun e w' => e = .returned (.bool (rightB op rd r1 r2 n)) ∧ Below w.heap.size w w' := by
  rcases Int.lt_or_le op 1 with h1 | h1
  · rw [right_lo h1]; exact right24_none op rd r1 r2 n (nth_lo _ h1) w
  · rcases Int.lt_or_le 65 op with h2 | h2
    · rw [right_hi h2]; exact right24_none op rd r1 r2 n (nth_hi (l := rlL) rfl h2) w
    · obtain ⟨hne, e1, e2, e3, e4⟩ := (rel_of h1 h2).same
      have hl := isL_ne (isL_of h1 h2)
      have e : rightB op rd r1 r2 n = (regB (nRd (pOf (nth rlL op))) rd && regB (nR1 (pOf (nth rlL op))) r1 && regB (nR2 (pOf (nth rlL op))) r2 && numB (pOf (nth rlL op)) n) := by
        rw [e1, e2, e3, e4]
        unfold rightB
        rw [show (nth plL op != 0) = true by simpa using hl]
        rfl
      rw [e]
      exact right24_some op rd r1 r2 n (isR_of op) (by simpa using hne) w

set_option maxHeartbeats 600000 in
theorem check11_yes (op rd r1 r2 n : Int) (h : rightB op rd r1 r2 n = true) (w : World) :
    Calls Tryd.prog 11 #[.agg #[.int .i64 op, .int .i64 rd, .int .i64 r1, .int .i64 r2, .int .i64 n]] w fun e w' => e = .returned (.int .i64 0) ∧ Below w.heap.size w w' := by
  go_enter Tryd.func11, Tryd.ntmps11
  go_wp2_with (first | (go_at_call 24; refine (right24 op rd r1 r2 n _).mono ?_; rw [h]; rintro e w1 ⟨rfl, hb⟩))
  all_goals go_ret
  all_goals exact ⟨rfl, ((Below.refl _ _).alloc (Nat.le_refl _) _).trans (hb.mono (by simp))⟩
set_option maxHeartbeats 600000 in
theorem check11_no (op rd r1 r2 n : Int) (h : rightB op rd r1 r2 n = false) (w : World) :
    Calls Tryd.prog 11 #[.agg #[.int .i64 op, .int .i64 rd, .int .i64 r1, .int .i64 r2, .int .i64 n]] w fun e w' => e = .returned (.int .i64 11) ∧ Below w.heap.size w w' := by
  go_enter Tryd.func11, Tryd.ntmps11
  go_wp2_with (first | (go_at_call 24; refine (right24 op rd r1 r2 n _).mono ?_; rw [h]; rintro e w1 ⟨rfl, hb⟩))
  all_goals go_ret
  all_goals exact ⟨rfl, ((Below.refl _ _).alloc (Nat.le_refl _) _).trans (hb.mono (by simp))⟩
end Go.Proofs.YtndbkkldfinggaaDoor
