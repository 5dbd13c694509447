/- Walks of the program's Decode: what it answers. -/
import Derived.Test.YtndbkkldfinggaaDoorD2
import Derived.Test.YtndbkkldfinggaaDoorD3
import Derived.Test.YtndbkkldfinggaaDoorA3
import Derived.LoopTactic
namespace Go.Proofs.YtndbkkldfinggaaDoor
open Go.RowKit
/-- Five new cells stay as they were laid. -/
theorem five {w w1 : World} (hb : Below (w.alloc (.cells #[.int .i64 0, .int .i64 0, .int .i64 0, .int .i64 0, .int .i64 0] 23)).heap.size (w.alloc (.cells #[.int .i64 0, .int .i64 0, .int .i64 0, .int .i64 0, .int .i64 0] 23)) w1) (i : Nat) (hi : i < 5) : w1.cell? ⟨w.heap.size, i, none⟩ = some (.int .i64 0) ∧ w1.frozen? ⟨w.heap.size, i, none⟩ = false := by
  rw [hb.cell (p := ⟨w.heap.size, i, none⟩) (by simp), hb.frozen (p := ⟨w.heap.size, i, none⟩) (by simp)]
  have e : i = 0 ∨ i = 1 ∨ i = 2 ∨ i = 3 ∨ i = 4 := by omega
  rcases e with rfl | rfl | rfl | rfl | rfl <;> exact ⟨by go_simp, by go_simp⟩
set_option maxHeartbeats 1000000 in
theorem decode13_hit (n k : Int) (h0 : 0 ≤ n) (h1 : n < 4294967296) (k1 : cF n ≤ k) (k2 : k ≤ cL n) (hno : ∀ j, cF n ≤ j → j < k → mt j n = false) (hy : mt k n = true) (w : World) (hT : Tab w) :
    Calls Tryd.prog 13 #[.int .u32 n] w fun e w' => e = .returned (.tuple #[.agg #[.int .i64 k, .int .i64 (gRd (nth plL k) n), .int .i64 (gR1 (nth plL k) n), .int .i64 (gR2 (nth plL k) n), .int .i64 (gth (nth plL k) n)], .int .i64 0]) ∧ Below w.heap.size w w' := by
  have c1 := cF_pos n
  have c2 := cL_le n
  have t0 : 0 < w.heap.size := hT.1
  have HT : Hid (Tab w) := hT
  have HN : Hid (∀ j, cF n ≤ j → j < k → mt j n = false) := hno
  have HY : Hid (mt k n = true) := hy
  clear hT hno hy
  obtain ⟨F, eF⟩ : ∃ F, cF n = F := ⟨_, rfl⟩
  obtain ⟨L, eL⟩ : ∃ L, cL n = L := ⟨_, rfl⟩
  rw [eF] at HN c1 k1
  rw [eL] at c2 k2
  go_enter Tryd.func13, Tryd.ntmps13
  go_wp2_with ((go_at_call 30; refine (candidates30 n h0 h1 _).mono ?_; rw [eF, eL]; rintro e w' ⟨rfl, rfl⟩))
  clear eF eL
  go_loopw [6] (fun v wq => ∃ j : Int, F ≤ j ∧ j ≤ k ∧ v = .int .i64 j ∧ Below (w.alloc (.cells #[.int .i64 0, .int .i64 0, .int .i64 0, .int .i64 0, .int .i64 0] 23)).heap.size (w.alloc (.cells #[.int .i64 0, .int .i64 0, .int .i64 0, .int .i64 0, .int .i64 0] 23)) wq) (fun v _ => (66 - intOf v).toNat)
  case atStart => exact ⟨F, by omega, by omega, rfl, Below.refl _ _⟩
  case round =>
    obtain ⟨j, j1, j2, rfl, hb0⟩ := hrel
    obtain ⟨hc0, hf0⟩ := bcell hb0
    have hz0 := hb0.size
    simp at hz0
    have j3 : 1 ≤ j := by omega
    have j4 : j ≤ 65 := by omega
    have hl := isL_of j3 j4
    have hA := and_mk _ n hl h0 h1
    have hcell := HT.out.2 j j3 j4
    have o3 : (0 : Int) ≤ j := by omega
    have o4 : j < 66 := by omega
    have o5 : j ≤ L := by omega
    by_cases hjk : j = k
    · subst hjk
      have hm : (andM (nth plL j) n == nth fxL j) = true := HY.out
      go_wp2_with (first | (go_at_call 26; refine (formOf26 _ _).mono ?_; rintro e w' ⟨rfl, rfl⟩))
      go_quiet ((go_at_call 31; exact Calls.quiet_of_same (mask31 _ hl _)))
      go_wp2_with (first | (go_at_call 32; refine (taken32 _ _ n hl h0 h1 _).mono ?_; rintro e w1 ⟨rfl, hb⟩; have hbb := (below_drewN hb0 nq).trans (hb.mono (by simp at hz0 ⊢; omega)); obtain ⟨q0, r0⟩ := five hbb 0 (by omega); obtain ⟨q1, r1⟩ := five hbb 1 (by omega); obtain ⟨q2, r2⟩ := five hbb 2 (by omega); obtain ⟨q3, r3⟩ := five hbb 3 (by omega); obtain ⟨q4, r4⟩ := five hbb 4 (by omega); clear hc0 hf0))
      refine bodyPost_ret (v := .tuple #[.agg #[.int .i64 j, .int .i64 (gRd (nth plL j) n), .int .i64 (gR1 (nth plL j) n), .int .i64 (gR2 (nth plL j) n), .int .i64 (gth (nth plL j) n)], .int .i64 0]) (by simp [results, Tryd.results13, go_sem, q0, q1, q2, q3, q4]) rfl ⟨rfl, ?_⟩
      iterate 5 refine Below.setCell ?_ (by simp) _
      exact ((Below.refl _ _).alloc (Nat.le_refl _) _).trans (hbb.mono (by simp))
    · have hm : (andM (nth plL j) n == nth fxL j) = false := HN.out j j1 (by omega)
      go_wp2_with (first | (go_at_call 26; refine (formOf26 _ _).mono ?_; rintro e w' ⟨rfl, rfl⟩))
      go_quiet ((go_at_call 31; exact Calls.quiet_of_same (mask31 _ hl _)))
      go_wp2
      go_roundw
      case rel => exact ⟨j + 1, by omega, by omega, by go_num, below_drewN hb0 _⟩
      case measure => simp [intOf]; omega

set_option maxHeartbeats 1000000 in
theorem decode13_miss (n : Int) (h0 : 0 ≤ n) (h1 : n < 4294967296) (hno : ∀ j, cF n ≤ j → j ≤ cL n → mt j n = false) (w : World) (hT : Tab w) :
    Calls Tryd.prog 13 #[.int .u32 n] w fun e w' => e = .returned (.tuple #[.agg #[.int .i64 0, .int .i64 0, .int .i64 0, .int .i64 0, .int .i64 0], .int .i64 10]) ∧ Below w.heap.size w w' := by
  have c1 := cF_pos n
  have c2 := cL_le n
  have c3 := cF_le n
  have t0 : 0 < w.heap.size := hT.1
  have HT : Hid (Tab w) := hT
  have HN : Hid (∀ j, cF n ≤ j → j ≤ cL n → mt j n = false) := hno
  clear hT hno
  obtain ⟨F, eF⟩ : ∃ F, cF n = F := ⟨_, rfl⟩
  obtain ⟨L, eL⟩ : ∃ L, cL n = L := ⟨_, rfl⟩
  rw [eF] at HN c1 c3
  rw [eL] at HN c2 c3
  go_enter Tryd.func13, Tryd.ntmps13
  go_wp2_with ((go_at_call 30; refine (candidates30 n h0 h1 _).mono ?_; rw [eF, eL]; rintro e w' ⟨rfl, rfl⟩))
  clear eF eL
  go_loopw [6] (fun v wq => ∃ j : Int, F ≤ j ∧ j ≤ L + 1 ∧ v = .int .i64 j ∧ Below (w.alloc (.cells #[.int .i64 0, .int .i64 0, .int .i64 0, .int .i64 0, .int .i64 0] 23)).heap.size (w.alloc (.cells #[.int .i64 0, .int .i64 0, .int .i64 0, .int .i64 0, .int .i64 0] 23)) wq) (fun v _ => (67 - intOf v).toNat)
  case atStart => exact ⟨F, by omega, by omega, rfl, Below.refl _ _⟩
  case round =>
    obtain ⟨j, j1, j2, rfl, hb0⟩ := hrel
    obtain ⟨hc0, hf0⟩ := bcell hb0
    have hz0 := hb0.size
    simp at hz0
    by_cases hjk : j ≤ L
    · have j3 : 1 ≤ j := by omega
      have j4 : j ≤ 65 := by omega
      have hl := isL_of j3 j4
      have hA := and_mk _ n hl h0 h1
      have hcell := HT.out.2 j j3 j4
      have o3 : (0 : Int) ≤ j := by omega
      have o4 : j < 66 := by omega
      have hm : (andM (nth plL j) n == nth fxL j) = false := HN.out j j1 hjk
      go_wp2_with (first | (go_at_call 26; refine (formOf26 _ _).mono ?_; rintro e w' ⟨rfl, rfl⟩))
      go_quiet ((go_at_call 31; exact Calls.quiet_of_same (mask31 _ hl _)))
      go_wp2
      go_roundw
      case rel => exact ⟨j + 1, by omega, by omega, by go_num, below_drewN hb0 _⟩
      case measure => simp [intOf]; omega
    · obtain ⟨q0, r0⟩ := five hb0 0 (by omega)
      obtain ⟨q1, r1⟩ := five hb0 1 (by omega)
      obtain ⟨q2, r2⟩ := five hb0 2 (by omega)
      obtain ⟨q3, r3⟩ := five hb0 3 (by omega)
      obtain ⟨q4, r4⟩ := five hb0 4 (by omega)
      clear hc0 hf0
      go_wp2
      refine bodyPost_ret (v := .tuple #[.agg #[.int .i64 0, .int .i64 0, .int .i64 0, .int .i64 0, .int .i64 0], .int .i64 10]) (by simp [results, Tryd.results13, go_sem, q0, q1, q2, q3, q4]) rfl ⟨rfl, ?_⟩
      iterate 5 refine Below.setCell ?_ (by simp) _
      exact ((Below.refl _ _).alloc (Nat.le_refl _) _).trans (hb0.mono (by simp))
end Go.Proofs.YtndbkkldfinggaaDoor
