/- Keywords, the program's and the document's; names by the document. -/
import Derived.Test.YtgdbfedagdlgkaaDoorA2
namespace Go.Proofs.YtgdbfedagdlgkaaDoor
open Go.RowKit Go.Shelf
def wdB (l : List UInt8) : Bool := (l == [102, 110]) || (l == [115, 116, 114, 117, 99, 116]) || (l == [101, 110, 117, 109]) || (l == [108, 101, 116]) || (l == [109, 117, 116]) || (l == [119, 104, 105, 108, 101]) || (l == [105, 102]) || (l == [101, 108, 115, 101]) || (l == [109, 97, 116, 99, 104]) || (l == [114, 101, 116, 117, 114, 110]) || (l == [98, 114, 101, 97, 107]) || (l == [99, 111, 110, 116, 105, 110, 117, 101]) || (l == [116, 114, 117, 101]) || (l == [102, 97, 108, 115, 101]) || (l == [105, 54, 52]) || (l == [98, 111, 111, 108]) || (l == [66, 111, 120])
def wdAt (k : Nat) : List UInt8 := [[102, 110], [115, 116, 114, 117, 99, 116], [101, 110, 117, 109], [108, 101, 116], [109, 117, 116], [119, 104, 105, 108, 101], [105, 102], [101, 108, 115, 101], [109, 97, 116, 99, 104], [114, 101, 116, 117, 114, 110], [98, 114, 101, 97, 107], [99, 111, 110, 116, 105, 110, 117, 101], [116, 114, 117, 101], [102, 97, 108, 115, 101], [105, 54, 52], [98, 111, 111, 108], [66, 111, 120]].getD k []
theorem wdB_none {l : List UInt8} (h : ∀ j, j < 17 → (l == wdAt j) = false) : wdB l = false := by
  have h0 := h 0 (by omega)
  have h1 := h 1 (by omega)
  have h2 := h 2 (by omega)
  have h3 := h 3 (by omega)
  have h4 := h 4 (by omega)
  have h5 := h 5 (by omega)
  have h6 := h 6 (by omega)
  have h7 := h 7 (by omega)
  have h8 := h 8 (by omega)
  have h9 := h 9 (by omega)
  have h10 := h 10 (by omega)
  have h11 := h 11 (by omega)
  have h12 := h 12 (by omega)
  have h13 := h 13 (by omega)
  have h14 := h 14 (by omega)
  have h15 := h 15 (by omega)
  have h16 := h 16 (by omega)
  simp only [wdAt, List.getD_cons_zero, List.getD_cons_succ] at h0 h1 h2 h3 h4 h5 h6 h7 h8 h9 h10 h11 h12 h13 h14 h15 h16
  simp only [wdB, h0, h1, h2, h3, h4, h5, h6, h7, h8, h9, h10, h11, h12, h13, h14, h15, h16, Bool.or_false]
theorem wdB_some {l : List UInt8} {k : Nat} (hk : k < 17) (h : (l == wdAt k) = true) : wdB l = true := by
  rcases (by omega : k = 0 ∨ k = 1 ∨ k = 2 ∨ k = 3 ∨ k = 4 ∨ k = 5 ∨ k = 6 ∨ k = 7 ∨ k = 8 ∨ k = 9 ∨ k = 10 ∨ k = 11 ∨ k = 12 ∨ k = 13 ∨ k = 14 ∨ k = 15 ∨ k = 16) with rfl | rfl | rfl | rfl | rfl | rfl | rfl | rfl | rfl | rfl | rfl | rfl | rfl | rfl | rfl | rfl | rfl
  all_goals
    simp only [wdAt, List.getD_cons_zero, List.getD_cons_succ] at h
    simp only [wdB, h, Bool.or_true, Bool.true_or]
set_option maxHeartbeats 2000000 in
theorem word13 (s : ByteArray) (w : World) : Calls Tryd.prog 13 #[.string s] w fun e w' => e = .returned (.bool (wdB s.data.toList)) ∧ w' = w := by
  have hl := ByteArray.toList_eq s
  generalize s.data.toList = l at *
  go_enter Tryd.func13, Tryd.ntmps13
  go_wp2
  all_goals go_ret
  all_goals exact ⟨ret_bool (by simp_all [wdB]), rfl⟩
theorem below_cells (w : World) (C : Array Value) (t : TypeId) : Below w.heap.size w (w.alloc (.cells C t)) := (Below.refl _ w).alloc (Nat.le_refl _) _
set_option maxHeartbeats 4000000 in
theorem word14 (s : ByteArray) (w : World) : Calls Tryd.prog 14 #[.string s] w fun e w' => e = .returned (.bool (wdB s.data.toList)) ∧ Below w.heap.size w w' := by
  have hl := ByteArray.toList_eq s
  generalize s.data.toList = l at *
  go_enter Tryd.func14, Tryd.ntmps14
  go_wp2
  go_loop [7] (fun i => ∃ k : Nat, k ≤ 17 ∧ i = .int .i64 k ∧ ∀ j, j < k → (l == wdAt j) = false) (fun i => 17 - (intOf i).toNat)
  case atStart => exact ⟨0, Nat.zero_le _, rfl, fun j hj => absurd hj (by omega)⟩
  case round =>
    obtain ⟨k, hk, rfl, hpre⟩ := hrel
    have HP : Hid (∀ j, j < k → (l == wdAt j) = false) := hpre
    clear hpre
    by_cases h17 : k = 17
    · subst h17
      go_wp2
      go_ret
      exact ⟨ret_bool (wdB_none HP.out).symm, below_cells _ _ _⟩
    · cases hc : (l == wdAt k)
      · have HC : Hid ((l == wdAt k) = false) := hc
        have HN : Hid (∀ j, j < k + 1 → (l == wdAt j) = false) := fun j hj => by
          rcases Nat.lt_or_ge j k with h | h
          · exact HP.out j h
          · obtain rfl : j = k := by omega
            exact HC.out
        clear HC
        rcases (by omega : k = 0 ∨ k = 1 ∨ k = 2 ∨ k = 3 ∨ k = 4 ∨ k = 5 ∨ k = 6 ∨ k = 7 ∨ k = 8 ∨ k = 9 ∨ k = 10 ∨ k = 11 ∨ k = 12 ∨ k = 13 ∨ k = 14 ∨ k = 15 ∨ k = 16) with rfl | rfl | rfl | rfl | rfl | rfl | rfl | rfl | rfl | rfl | rfl | rfl | rfl | rfl | rfl | rfl | rfl
        all_goals
          simp only [wdAt, List.getD_cons_zero, List.getD_cons_succ] at hc
          go_wp2
          go_round
          case rel => exact ⟨_, by omega, by go_num, HN.out⟩
          case measure => simp [intOf]
      · have HC : Hid (wdB l = true) := wdB_some (by omega) hc
        rcases (by omega : k = 0 ∨ k = 1 ∨ k = 2 ∨ k = 3 ∨ k = 4 ∨ k = 5 ∨ k = 6 ∨ k = 7 ∨ k = 8 ∨ k = 9 ∨ k = 10 ∨ k = 11 ∨ k = 12 ∨ k = 13 ∨ k = 14 ∨ k = 15 ∨ k = 16) with rfl | rfl | rfl | rfl | rfl | rfl | rfl | rfl | rfl | rfl | rfl | rfl | rfl | rfl | rfl | rfl | rfl
        all_goals
          simp only [wdAt, List.getD_cons_zero, List.getD_cons_succ] at hc
          go_wp2
          go_ret
          exact ⟨ret_bool HC.out.symm, below_cells _ _ _⟩
end Go.Proofs.YtgdbfedagdlgkaaDoor
