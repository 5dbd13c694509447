/- Walks of the program's own Check and what it calls: what each answers. -/
import Derived.Test.YtndbkkldfinggaaDoorA1
import Derived.Test.YtndbkkldfinggaaDoorWords
namespace Go.Proofs.YtndbkkldfinggaaDoor
open Go.RowKit

set_option maxHeartbeats 4000000 in
theorem numbers46 (l : Int) (hl : IsL l) (w : World) :
    Calls Tryd.prog 46 #[.int .u8 l] w fun e w' => e = .returned (.tuple #[.int .i64 (loN l), .int .i64 (hiN l), .int .i64 (stN l)]) ∧ w' = w := by
  rcases hl with rfl | rfl | rfl | rfl | rfl | rfl | rfl | rfl | rfl | rfl
  all_goals
    go_enter Tryd.func46, Tryd.ntmps46
    go_wp2
    go_ret3
    exact ⟨rfl, rfl⟩

theorem stN_or (l : Int) : stN l = 1 ∨ stN l = 2 := by unfold stN; split <;> simp

set_option maxHeartbeats 4000000 in
theorem numberRight29 (l n : Int) (hl : IsL l) (w : World) :
    Calls Tryd.prog 29 #[.int .u8 l, .int .i64 n] w fun e w' => e = .returned (.bool (numB l n)) ∧ w' = w := by
  have hlo : Hid (numB l n = (decide (loN l ≤ n) && decide (n ≤ hiN l) && (n % stN l == 0))) := rfl
  rcases stN_or l with hs | hs
  · by_cases h1 : loN l ≤ n
    · by_cases h2 : n ≤ hiN l
      · go_enter Tryd.func29, Tryd.ntmps29
        go_wp2_with ((go_at_call 46; refine (numbers46 _ hl _).mono ?_; rintro e w' ⟨rfl, rfl⟩))
        all_goals go_ret
        all_goals exact ⟨ret_bool (by rw [hlo.out, hs]; simp [h1, h2]), rfl⟩
      · go_enter Tryd.func29, Tryd.ntmps29
        go_wp2_with ((go_at_call 46; refine (numbers46 _ hl _).mono ?_; rintro e w' ⟨rfl, rfl⟩))
        all_goals go_ret
        all_goals exact ⟨ret_bool (by rw [hlo.out, hs]; simp [h1] <;> omega), rfl⟩
    · go_enter Tryd.func29, Tryd.ntmps29
      go_wp2_with ((go_at_call 46; refine (numbers46 _ hl _).mono ?_; rintro e w' ⟨rfl, rfl⟩))
      all_goals go_ret
      all_goals exact ⟨ret_bool (by rw [hlo.out]; simp <;> omega), rfl⟩
  · by_cases h1 : loN l ≤ n
    · by_cases h2 : n ≤ hiN l
      · go_enter Tryd.func29, Tryd.ntmps29
        go_wp2_with ((go_at_call 46; refine (numbers46 _ hl _).mono ?_; rintro e w' ⟨rfl, rfl⟩))
        all_goals go_ret
        all_goals exact ⟨ret_bool (by rw [hlo.out, hs, Bool.eq_iff_iff]; simp [h1, h2, tmod2]), rfl⟩
      · go_enter Tryd.func29, Tryd.ntmps29
        go_wp2_with ((go_at_call 46; refine (numbers46 _ hl _).mono ?_; rintro e w' ⟨rfl, rfl⟩))
        all_goals go_ret
        all_goals exact ⟨ret_bool (by rw [hlo.out, hs]; simp [h1] <;> omega), rfl⟩
    · go_enter Tryd.func29, Tryd.ntmps29
      go_wp2_with ((go_at_call 46; refine (numbers46 _ hl _).mono ?_; rintro e w' ⟨rfl, rfl⟩))
      all_goals go_ret
      all_goals exact ⟨ret_bool (by rw [hlo.out]; simp <;> omega), rfl⟩

set_option maxHeartbeats 4000000 in
theorem registersRight28 (l op rd r1 r2 n : Int) (hl : IsL l) (w : World) :
    Calls Tryd.prog 28 #[.int .u8 l, .agg #[.int .i64 op, .int .i64 rd, .int .i64 r1, .int .i64 r2, .int .i64 n]] w fun e w' => e = .returned (.bool (regB (nRd l) rd && regB (nR1 l) r1 && regB (nR2 l) r2)) ∧ Below w.heap.size w w' := by
  go_enter Tryd.func28, Tryd.ntmps28
  go_wp2_with (first | (go_at_call 44; refine (registers44 _ hl _).mono ?_; rintro e w' ⟨rfl, rfl⟩) | (go_at_call 45; refine (registerRight45 _ _ _).mono ?_; rintro e w' ⟨rfl, rfl⟩))
  all_goals go_ret
  all_goals exact ⟨ret_bool (by simp [*]), (Below.refl _ _).alloc (Nat.le_refl _) _⟩

set_option maxHeartbeats 4000000 in
/-- Check of an instruction that is right. -/
theorem check10_yes (op rd r1 r2 n : Int) (h : rightB op rd r1 r2 n = true) (w : World) :
    Calls Tryd.prog 10 #[.agg #[.int .i64 op, .int .i64 rd, .int .i64 r1, .int .i64 r2, .int .i64 n]] w fun e w' => e = .returned (.int .i64 0) ∧ Below w.heap.size w w' := by
  obtain ⟨o1, o2⟩ := ops_of_right h
  have hl := isL_of o1 o2
  obtain ⟨h0, hr, hn⟩ := right_parts h
  clear h o1 o2
  go_enter Tryd.func10, Tryd.ntmps10
  go_wp2_with (first | (go_at_call 26; refine (formOf26 _ _).mono ?_; rintro e w' ⟨rfl, rfl⟩) | (go_at_call 28; refine (registersRight28 _ _ _ _ _ _ hl _).mono ?_; rw [hr]; rintro e w1 ⟨rfl, hb⟩; obtain ⟨hc, hf⟩ := bcell hb) | (go_at_call 29; refine (numberRight29 _ _ hl _).mono ?_; rw [hn]; rintro e w' ⟨rfl, rfl⟩))
  all_goals go_ret
  all_goals exact ⟨rfl, ((Below.refl _ _).alloc (Nat.le_refl _) _).trans (hb.mono (by simp))⟩

set_option maxHeartbeats 4000000 in
/-- Check of an instruction that is not right. -/
theorem check10_no (op rd r1 r2 n : Int) (h : rightB op rd r1 r2 n = false) (w : World) :
    Calls Tryd.prog 10 #[.agg #[.int .i64 op, .int .i64 rd, .int .i64 r1, .int .i64 r2, .int .i64 n]] w fun e w' => e = .returned (.int .i64 11) ∧ Below w.heap.size w w' := by
  by_cases h0 : nth plL op = 0
  · clear h
    go_enter Tryd.func10, Tryd.ntmps10
    go_wp2_with (first | (go_at_call 26; refine (formOf26 _ _).mono ?_; rw [h0]; rintro e w' ⟨rfl, rfl⟩))
    all_goals go_ret
    all_goals exact ⟨rfl, (Below.refl _ _).alloc (Nat.le_refl _) _⟩
  · have hl : IsL (nth plL op) := by
      rcases Int.lt_or_le op 1 with k | k
      · exact absurd (nth_lo _ k) h0
      · rcases Int.lt_or_le 65 op with m | m
        · exact absurd (nth_hi (l := plL) rfl m) h0
        · exact isL_of k m
    have h0' : (nth plL op == 0) = false := by simpa using h0
    have hx : ((regB (nRd (nth plL op)) rd && regB (nR1 (nth plL op)) r1 && regB (nR2 (nth plL op)) r2) && numB (nth plL op) n) = false := by
      simpa [rightB, h0] using h
    clear h h0
    by_cases hr : (regB (nRd (nth plL op)) rd && regB (nR1 (nth plL op)) r1 && regB (nR2 (nth plL op)) r2) = true
    · have hn : numB (nth plL op) n = false := by simpa [hr] using hx
      clear hx
      go_enter Tryd.func10, Tryd.ntmps10
      go_wp2_with (first | (go_at_call 26; refine (formOf26 _ _).mono ?_; rintro e w' ⟨rfl, rfl⟩) | (go_at_call 28; refine (registersRight28 _ _ _ _ _ _ hl _).mono ?_; rw [hr]; rintro e w1 ⟨rfl, hb⟩; obtain ⟨hc, hf⟩ := bcell hb) | (go_at_call 29; refine (numberRight29 _ _ hl _).mono ?_; rw [hn]; rintro e w' ⟨rfl, rfl⟩))
      all_goals go_ret
      all_goals exact ⟨rfl, ((Below.refl _ _).alloc (Nat.le_refl _) _).trans (hb.mono (by simp))⟩
    · have hr' : (regB (nRd (nth plL op)) rd && regB (nR1 (nth plL op)) r1 && regB (nR2 (nth plL op)) r2) = false := by simpa using hr
      clear hx hr
      go_enter Tryd.func10, Tryd.ntmps10
      go_wp2_with (first | (go_at_call 26; refine (formOf26 _ _).mono ?_; rintro e w' ⟨rfl, rfl⟩) | (go_at_call 28; refine (registersRight28 _ _ _ _ _ _ hl _).mono ?_; rw [hr']; rintro e w1 ⟨rfl, hb⟩; obtain ⟨hc, hf⟩ := bcell hb))
      all_goals go_ret
      all_goals exact ⟨rfl, ((Below.refl _ _).alloc (Nat.le_refl _) _).trans (hb.mono (by simp))⟩
end Go.Proofs.YtndbkkldfinggaaDoor
