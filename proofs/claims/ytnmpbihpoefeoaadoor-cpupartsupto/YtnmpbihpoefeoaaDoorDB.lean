/- Decode, of words that are none. -/
import Derived.Test.YtnmpbihpoefeoaaDoorDA
namespace Go.Proofs.YtnmpbihpoefeoaaDoor
open Go.RowKit Go.Shelf
theorem cF_le (w : Int) : cF w ≤ cL w := by
  unfold cF cL
  by_cases a : w % 128 = 55 ∨ w % 128 = 23
  · rw [if_pos a, if_pos a]; decide
  rw [if_neg a, if_neg a]
  clear a
  by_cases a : w % 128 = 111
  · rw [if_pos a, if_pos a]; decide
  rw [if_neg a, if_neg a]
  clear a
  by_cases a : w % 128 = 103
  · rw [if_pos a, if_pos a]; decide
  rw [if_neg a, if_neg a]
  clear a
  by_cases a : w % 128 = 99
  · rw [if_pos a, if_pos a]; decide
  rw [if_neg a, if_neg a]
  clear a
  by_cases a : w % 128 = 3
  · rw [if_pos a, if_pos a]; decide
  rw [if_neg a, if_neg a]
  clear a
  by_cases a : w % 128 = 35
  · rw [if_pos a, if_pos a]; decide
  rw [if_neg a, if_neg a]
  clear a
  by_cases a : w % 128 = 19 ∧ w / 4096 % 4 = 1
  · rw [if_pos a, if_pos a]; decide
  rw [if_neg a, if_neg a]
  clear a
  by_cases a : w % 128 = 19
  · rw [if_pos a, if_pos a]; decide
  rw [if_neg a, if_neg a]
  clear a
  by_cases a : w % 128 = 27
  · rw [if_pos a, if_pos a]; decide
  rw [if_neg a, if_neg a]
  clear a
  by_cases a : w % 128 = 51 ∧ w / 33554432 % 128 = 1
  · rw [if_pos a, if_pos a]; decide
  rw [if_neg a, if_neg a]
  clear a
  by_cases a : w % 128 = 51
  · rw [if_pos a, if_pos a]; decide
  rw [if_neg a, if_neg a]
  clear a
  by_cases a : w % 128 = 59 ∧ w / 33554432 % 128 = 1
  · rw [if_pos a, if_pos a]; decide
  rw [if_neg a, if_neg a]
  clear a
  by_cases a : w % 128 = 59
  · rw [if_pos a, if_pos a]; decide
  rw [if_neg a, if_neg a]
  clear a
  decide
set_option maxHeartbeats 1000000 in
theorem decode13_miss (n : Int) (h0 : 0 ≤ n) (h1 : n < 4294967296) (hno : ∀ j, cF n ≤ j → j ≤ cL n → mt j n = false) (w : World) (hT : Tab w) :
    Calls Tryd.prog 46 #[.int .u32 n] w fun e w' => e = .returned (.tuple #[.agg #[.int .i64 0, .int .i64 0, .int .i64 0, .int .i64 0, .int .i64 0], .int .i64 10]) ∧ Below w.heap.size w w' := by
  have c1 := cF_pos n
  have c2 := cL_le n
  have c3 := cF_le n
  have t0 : 0 < w.heap.size := hT.1
  have HT : Hid (Tab w) := hT
  have HN : Hid (∀ j, cF n ≤ j → j ≤ cL n → mt j n = false) := hno
  clear hT hno
  obtain ⟨F, eF⟩ : ∃ F, cF n = F := ⟨_, rfl⟩
  obtain ⟨L, eL⟩ : ∃ L, cL n = L := ⟨_, rfl⟩
  rw [eF] at HN c1 c3
  rw [eL] at HN c2 c3
  go_enter Tryd.func46, Tryd.ntmps46
  go_wp2_with ((go_at_call 57; refine (candidates30 n h0 h1 _).mono ?_; rw [eF, eL]; rintro e w' ⟨rfl, rfl⟩))
  clear eF eL
  go_loopw [6] (fun v wq => ∃ j : Int, F ≤ j ∧ j ≤ L + 1 ∧ v = .int .i64 j ∧ Below (w.alloc (.cells #[.int .i64 0, .int .i64 0, .int .i64 0, .int .i64 0, .int .i64 0] 91)).heap.size (w.alloc (.cells #[.int .i64 0, .int .i64 0, .int .i64 0, .int .i64 0, .int .i64 0] 91)) wq) (fun v _ => (67 - intOf v).toNat)
  case atStart => exact ⟨F, by omega, by omega, rfl, Below.refl _ _⟩
  case round =>
    obtain ⟨j, j1, j2, rfl, hb0⟩ := hrel
    obtain ⟨hc0, hf0⟩ := bcell hb0
    have hz0 := hb0.size
    simp at hz0
    by_cases hjk : j ≤ L
    · have j3 : 1 ≤ j := by omega
      have j4 : j ≤ 65 := by omega
      have hl := isL_of j3 j4
      have hA := and_mk _ n hl h0 h1
      have hcell := HT.out.2 j j3 j4
      have o3 : (0 : Int) ≤ j := by omega
      have o4 : j < 66 := by omega
      have hm : (andM (nth plL j) n == nth fxL j) = false := HN.out j j1 hjk
      go_wp2_with (first | (go_at_call 58; refine (formOf26 _ _).mono ?_; rintro e w' ⟨rfl, rfl⟩))
      go_quiet ((go_at_call 59; exact Calls.quiet_of_same (mask31 _ hl _)))
      go_wp2
      go_roundw
      case rel => exact ⟨j + 1, by omega, by omega, by go_num, below_drewN hb0 _⟩
      case measure => simp [intOf]; omega
    · obtain ⟨q0, r0⟩ := five hb0 0 (by omega)
      obtain ⟨q1, r1⟩ := five hb0 1 (by omega)
      obtain ⟨q2, r2⟩ := five hb0 2 (by omega)
      obtain ⟨q3, r3⟩ := five hb0 3 (by omega)
      obtain ⟨q4, r4⟩ := five hb0 4 (by omega)
      clear hc0 hf0
      go_wp2
      refine bodyPost_ret (v := .tuple #[.agg #[.int .i64 0, .int .i64 0, .int .i64 0, .int .i64 0, .int .i64 0], .int .i64 10]) (by simp [results, Tryd.results46, go_sem, q0, q1, q2, q3, q4]) rfl ⟨rfl, ?_⟩
      iterate 5 refine Below.setCell ?_ (by simp) _
      exact ((Below.refl _ _).alloc (Nat.le_refl _) _).trans (hb0.mono (by simp))
end Go.Proofs.YtnmpbihpoefeoaaDoor
