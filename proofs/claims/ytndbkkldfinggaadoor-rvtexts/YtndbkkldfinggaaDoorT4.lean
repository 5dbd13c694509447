/- Walks of what the document reads, whole; equal lists of numbers. -/
import Derived.Test.YtndbkkldfinggaaDoorT3
namespace Go.Proofs.YtndbkkldfinggaaDoor
open Go.RowKit
set_option maxHeartbeats 1000000 in
theorem reads18_no (op rd r1 r2 n : Int) (h : rightB op rd r1 r2 n = false) (w : World) :
    Calls Tryd.prog 18 #[.agg #[.int .i64 op, .int .i64 rd, .int .i64 r1, .int .i64 r2, .int .i64 n]] w fun e w' => e = .returned (.tuple #[.slice none 0 0, .int .i64 11]) ∧ Below w.heap.size w w' := by
  have HR : Hid (rightB op rd r1 r2 n = false) := h
  clear h
  go_enter Tryd.func18, Tryd.ntmps18
  go_wp2_with fail
  refine (right24 op rd r1 r2 n _).mono ?_
  rw [HR.out]
  rintro e w1 ⟨rfl, hb⟩
  have HB1 : Hid (Below w.heap.size w w1) := belowA hb
  clear hb
  go_wp2
  go_ret2
  exact ⟨rfl, HB1.out⟩
set_option maxHeartbeats 1000000 in
theorem reads18_call (rd r1 r2 n : Int) (h : rightB 64 rd r1 r2 n = true) (w : World) :
    Calls Tryd.prog 18 #[.agg #[.int .i64 64, .int .i64 rd, .int .i64 r1, .int .i64 r2, .int .i64 n]] w fun e w' => ∃ v, e = .returned (.tuple #[v, .int .i64 0]) ∧ w'.ownsRow w.heap.size 3 1 v 2 [.int .i64 10, .int .i64 17] ∧ Below w.heap.size w w' := by
  have HR : Hid (rightB 64 rd r1 r2 n = true) := h
  clear h
  go_enter Tryd.func18, Tryd.ntmps18
  go_wp2_with fail
  refine (right24 64 rd r1 r2 n _).mono ?_
  rw [HR.out]
  rintro e w1 ⟨rfl, hb⟩
  obtain ⟨a0, a1, a2, a3, a4, a5⟩ := box5 w (.int .i64 64) (.int .i64 rd) (.int .i64 r1) (.int .i64 r2) (.int .i64 n) 23
  obtain ⟨c0, c1, c2, c3, c4, c5⟩ := keep5 (w := w) a5 hb a0 a1 a2 a3 a4
  have HB1 : Hid (Below w.heap.size w w1) := belowA hb
  clear hb a0 a1 a2 a3 a4 a5
  go_wp2
  go_ret2
  exact ⟨_, rfl, World.ownsRow_lit _ _ 2 HB1.out.size (by unfold maxLen; omega) rfl, HB1.out.alloc HB1.out.size _⟩
theorem zero_of_reg {r : Int} (h : regB false r = true) : r = 0 := by simpa [regB] using h
/-- What the document says that a right instruction reads. -/
theorem reads18_yes (op rd r1 r2 n : Int) (h : rightB op rd r1 r2 n = true) (w : World) :
    Calls Tryd.prog 18 #[.agg #[.int .i64 op, .int .i64 rd, .int .i64 r1, .int .i64 r2, .int .i64 n]] w fun e w' => ∃ v, e = .returned (.tuple #[v, .int .i64 0]) ∧ w'.ownsRow w.heap.size 3 1 v (rdI op r1 r2).length ((rdI op r1 r2).map (Value.int .i64)) ∧ Below w.heap.size w w' := by
  by_cases ho : op = 64
  · subst ho
    exact reads18_call rd r1 r2 n h w
  · obtain ⟨o1, o2⟩ := ops_of_right h
    obtain ⟨-, hr, -⟩ := right_parts h
    obtain ⟨-, ⟨a0, a1⟩, ⟨b0, b1⟩, -⟩ := right_ranges h
    obtain ⟨-, -, e2, e3, -⟩ := (rel_of o1 o2).same
    simp only [Bool.and_eq_true] at hr
    rw [show rdI op r1 r2 = lhI r1 r2 from if_neg ho, ← flI_all a0 a1 b0 b1]
    exact reads18_main op rd r1 r2 n _ _ h ho e2 e3 (fun e => by have := hr.1.2; rw [e] at this; exact zero_of_reg this) (fun e => by have := hr.2; rw [e] at this; exact zero_of_reg this) w
set_option maxHeartbeats 1000000 in
theorem ints21_none (oa ob : Option Addr) (ca cb : Nat) (w : World) : Calls Tryd.prog 21 #[.slice oa 0 ca, .slice ob 0 cb] w fun e w' => e = .returned (.bool true) ∧ Below w.heap.size w w' := by
  go_enter Tryd.func21, Tryd.ntmps21
  go_wp2_with fail
  go_loopw [13] (fun x wr => x = .int .i64 0 ∧ wr = w) (fun _ _ => 0)
  case atStart => exact ⟨rfl, rfl⟩
  case round =>
    obtain ⟨rfl, rfl⟩ := hrel
    go_wp2
    go_ret
    exact ⟨rfl, Below.refl _ _⟩
set_option maxHeartbeats 1000000 in
theorem ints21_some (ga gb ca cb n : Nat) (A : List Int) (hn : n ≤ 31) (w : World) (hA : ∀ k, k < n → w.cell? ⟨ga, k, none⟩ = some (.int .i64 (A.getD k 0))) (hB : ∀ k, k < n → w.cell? ⟨gb, k, none⟩ = some (.int .i64 (A.getD k 0))) : Calls Tryd.prog 21 #[.slice (some ⟨ga, 0, none⟩) n ca, .slice (some ⟨gb, 0, none⟩) n cb] w fun e w' => e = .returned (.bool true) ∧ Below w.heap.size w w' := by
  have HA : Hid (∀ k, k < n → w.cell? ⟨ga, k, none⟩ = some (.int .i64 (A.getD k 0))) := hA
  have HB : Hid (∀ k, k < n → w.cell? ⟨gb, k, none⟩ = some (.int .i64 (A.getD k 0))) := hB
  clear hA hB
  go_enter Tryd.func21, Tryd.ntmps21
  go_wp2_with fail
  go_loopw [13] (fun x wr => ∃ k d : Nat, k ≤ n ∧ x = .int .i64 (k : Int) ∧ wr = w.drewN d) (fun x _ => n - (intOf x).toNat)
  case atStart => exact ⟨0, 0, by omega, rfl, rfl⟩
  case round =>
    obtain ⟨k, d, hk, rfl, rfl⟩ := hrel
    by_cases hkn : k < n
    · obtain ⟨x, ex⟩ : ∃ x, x = A.getD k 0 := ⟨_, rfl⟩
      have c1 : w.cell? ⟨ga, k, none⟩ = some (.int .i64 x) := by rw [ex]; exact HA.out k hkn
      have c2 : w.cell? ⟨gb, k, none⟩ = some (.int .i64 x) := by rw [ex]; exact HB.out k hkn
      have q1 : (k : Int) < (n : Int) := by omega
      clear ex
      go_wp2_with fail
      go_quiet (fail)
      go_wp2
      go_roundw
      case rel => exact ⟨k + 1, _, by omega, by go_num, rfl⟩
      case measure => simp [intOf]; omega
    · obtain rfl : k = n := by omega
      go_wp2
      go_ret
      exact ⟨rfl, below_drewN (Below.refl _ _) _⟩
/-- Two slices that own the same numbers are equal lists. -/
theorem ints21 (B C : Nat) (va vb : Value) (A : List Int) (hn : A.length ≤ 31) (w : World) (ha : w.ownsRow B 3 1 va A.length (A.map (Value.int .i64))) (hb : w.ownsRow C 3 1 vb A.length (A.map (Value.int .i64))) : Calls Tryd.prog 21 #[va, vb] w fun e w' => e = .returned (.bool true) ∧ Below w.heap.size w w' := by
  have cells : ∀ {D g cap : Nat}, w.ownsRow D 3 1 (.slice (some ⟨g, 0, none⟩) A.length cap) A.length (A.map (Value.int .i64)) → ∀ k, k < A.length → w.cell? ⟨g, k, none⟩ = some (.int .i64 (A.getD k 0)) := by
    intro D g cap h k hk
    rw [h.cellAt k (by omega), List.getElem?_map]
    simp [hk, List.getD]
  have ha' := ha
  have hb' := hb
  obtain ⟨-, ha⟩ := ha
  obtain ⟨-, hb⟩ := hb
  rcases ha with ⟨rfl, h0⟩ | ⟨g, cap, cur, rfl, -⟩
  · rcases hb with ⟨rfl, -⟩ | ⟨g', cap', cur', rfl, -⟩
    · exact ints21_none _ _ _ _ w
    · rw [h0]; exact ints21_none _ _ _ _ w
  · rcases hb with ⟨rfl, h0⟩ | ⟨g', cap', cur', rfl, -⟩
    · rw [h0]; exact ints21_none _ _ _ _ w
    · exact ints21_some g g' cap cap' A.length A hn w (cells ha') (cells hb')
end Go.Proofs.YtndbkkldfinggaaDoor
