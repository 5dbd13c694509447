/- Walks of a memory that is nil: a load. -/
import Derived.Test.YtndbkkldfinggacM1
namespace Go.Proofs.Ytndbkkldfinggac
open Go.RowKit
set_option maxHeartbeats 1000000 in
theorem usable28_far (p n pm : Int) (a0 : 0 ≤ p) (a1 : p < 18446744073709551616) (n0 : 0 < n) (n1 : n ≤ 8) (h : 281474976710656 ≤ p ∨ 281474976710656 - p < n) (w : World) : Calls Try.prog 28 #[.pointer none, .int .u64 p, .int .i64 n, .int .i64 pm] w fun e w' => e = .returned (.int .i64 1) ∧ Below w.heap.size w w' := by
  have HX : Hid (∀ W, Calls Try.prog 12 #[.int .u64 p, .int .u64 n] W fun e w' => e = .returned (.bool true) ∧ w' = W) := fun W => by have t := beyond12 p n a0 a1 (by omega) (by omega) W; rw [decide_eq_true h] at t; exact t
  clear h
  go_enter Try.func28, Try.ntmps28
  go_wp2_with fail
  refine (HX.out _).mono ?_
  rintro e w1 ⟨rfl, e1⟩
  subst e1
  go_wp2
  go_ret
  exact ⟨rfl, Below.refl _ _⟩
set_option maxHeartbeats 1000000 in
theorem base36 (p : Int) (a0 : 0 ≤ p) (a1 : p < 18446744073709551616) (w : World) : Calls Try.prog 36 #[.int .u64 p] w fun e w' => e = .returned (.int .u64 (p - p % 4096)) ∧ w' = w := by
  have q : p % 4096 ≤ p := by omega
  have q0 : 0 ≤ p % 4096 := by omega
  go_enter Try.func36, Try.ntmps36
  go_wp2
  go_ret
  exact ⟨rfl, rfl⟩
set_option maxHeartbeats 1000000 in
theorem usable28_near (p n pm : Int) (a0 : 0 ≤ p) (a1 : p < 18446744073709551616) (n0 : 0 < n) (n1 : n ≤ 8) (h : ¬ (281474976710656 ≤ p ∨ 281474976710656 - p < n)) (w : World) : Calls Try.prog 28 #[.pointer none, .int .u64 p, .int .i64 n, .int .i64 pm] w fun e w' => e = .returned (.int .i64 20) ∧ Below w.heap.size w w' := by
  have HX : Hid (∀ W, Calls Try.prog 12 #[.int .u64 p, .int .u64 n] W fun e w' => e = .returned (.bool false) ∧ w' = W) := fun W => by have t := beyond12 p n a0 a1 (by omega) (by omega) W; rw [decide_eq_false h] at t; exact t
  have q1 : p < 281474976710656 := by omega
  have q2 : p < p + n := by omega
  clear h
  go_enter Try.func28, Try.ntmps28
  go_wp2_with fail
  refine (HX.out _).mono ?_
  rintro e w1 ⟨rfl, e1⟩
  subst e1
  go_wp2_with fail
  go_loopw [10] (fun x wr => x = .int .u64 p ∧ wr = w1) (fun _ _ => 0)
  case atStart => exact ⟨rfl, rfl⟩
  case round =>
    obtain ⟨rfl, rfl⟩ := hrel
    go_wp2_with fail
    refine (base36 p a0 a1 _).mono ?_
    rintro e w2 ⟨rfl, e2⟩
    subst e2
    go_wp2_with fail
    refine (page25_nil _ _).mono ?_
    rintro e w3 ⟨rfl, hb⟩
    go_wp2
    go_ret
    exact ⟨rfl, hb.alloc hb.size _⟩
/-- What Load tells of a memory that is nil. -/
def loadE (p n : Int) : Int := if n = 1 ∨ n = 2 ∨ n = 4 ∨ n = 8 then (if 281474976710656 ≤ p ∨ 281474976710656 - p < n then 1 else 20) else 1
theorem usable28 (p n pm : Int) (a0 : 0 ≤ p) (a1 : p < 18446744073709551616) (hn : n = 1 ∨ n = 2 ∨ n = 4 ∨ n = 8) (w : World) : Calls Try.prog 28 #[.pointer none, .int .u64 p, .int .i64 n, .int .i64 pm] w fun e w' => e = .returned (.int .i64 (loadE p n)) ∧ Below w.heap.size w w' := by
  unfold loadE
  rw [if_pos hn]
  by_cases h : 281474976710656 ≤ p ∨ 281474976710656 - p < n
  · rw [if_pos h]
    exact usable28_far p n pm a0 a1 (by omega) (by omega) h w
  · rw [if_neg h]
    exact usable28_near p n pm a0 a1 (by omega) (by omega) h w
theorem loadE_ne (p n : Int) : loadE p n = 1 ∨ loadE p n = 20 := by
  unfold loadE
  split
  · split
    · exact .inl rfl
    · exact .inr rfl
  · exact .inl rfl
set_option maxHeartbeats 1000000 in
theorem number17 (p n pm : Int) (a0 : 0 ≤ p) (a1 : p < 18446744073709551616) (w : World) : Calls Try.prog 17 #[.pointer none, .int .u64 p, .int .i64 n, .int .i64 pm] w fun e w' => e = .returned (.int .i64 (loadE p n)) ∧ Below w.heap.size w w' := by
  by_cases hn : n = 1 ∨ n = 2 ∨ n = 4 ∨ n = 8
  · have HU : Hid (∀ W, Calls Try.prog 28 #[.pointer none, .int .u64 p, .int .i64 n, .int .i64 pm] W fun e w' => e = .returned (.int .i64 (loadE p n)) ∧ Below W.heap.size W w') := fun W => usable28 p n pm a0 a1 hn W
    generalize loadE p n = x at *
    rcases hn with rfl | rfl | rfl | rfl
    all_goals
      go_enter Try.func17, Try.ntmps17
      go_wp2_with fail
      refine (HU.out _).mono ?_
      rintro e w1 ⟨rfl, hb⟩
      go_wp2
      go_ret
      exact ⟨rfl, hb⟩
  · rw [show loadE p n = 1 from if_neg hn]
    have h1 : ¬ n = 1 := by omega
    have h2 : ¬ n = 2 := by omega
    have h3 : ¬ n = 4 := by omega
    have h4 : ¬ n = 8 := by omega
    clear hn
    go_enter Try.func17, Try.ntmps17
    go_wp2
    go_ret
    exact ⟨rfl, Below.refl _ _⟩
set_option maxHeartbeats 1000000 in
theorem load6_nil (p n : Int) (a0 : 0 ≤ p) (a1 : p < 18446744073709551616) (w : World) : Calls Try.prog 6 #[.pointer none, .int .u64 p, .int .i64 n] w fun e w' => e = .returned (.tuple #[.int .u64 0, .int .i64 (loadE p n)]) ∧ Below w.heap.size w w' := by
  have HU : Hid (∀ W, Calls Try.prog 17 #[.pointer none, .int .u64 p, .int .i64 n, .int .i64 4] W fun e w' => e = .returned (.int .i64 (loadE p n)) ∧ Below W.heap.size W w') := fun W => number17 p n 4 a0 a1 W
  have hx : ¬ loadE p n = 0 := by rcases loadE_ne p n with h | h <;> omega
  generalize loadE p n = x at *
  go_enter Try.func6, Try.ntmps6
  go_wp2_with fail
  refine (HU.out _).mono ?_
  rintro e w1 ⟨rfl, hb⟩
  go_wp2
  go_ret2
  exact ⟨rfl, hb⟩
set_option maxHeartbeats 1000000 in
theorem perm15_6 (w : World) : Calls Try.prog 15 #[.int .i64 6] w fun e w' => e = .returned (.bool true) ∧ w' = w := by
  go_enter Try.func15, Try.ntmps15
  go_wp2
  go_ret
  exact ⟨rfl, rfl⟩
set_option maxHeartbeats 1000000 in
theorem find30_nil (p : Int) (w : World) : Calls Try.prog 30 #[.slice none 0 0, .int .u64 p] w fun e w' => e = .returned (.int .i64 (-1)) ∧ w' = w := by
  go_enter Try.func30, Try.ntmps30
  go_wp2_with fail
  go_loopw [5] (fun x wr => x = .int .i64 0 ∧ wr = w) (fun _ _ => 0)
  case atStart => exact ⟨rfl, rfl⟩
  case round =>
    obtain ⟨rfl, rfl⟩ := hrel
    go_wp2
    go_ret
    exact ⟨rfl, rfl⟩
set_option maxHeartbeats 1000000 in
theorem asked19_far (p n pm : Int) (a0 : 0 ≤ p) (a1 : p < 18446744073709551616) (n0 : 0 < n) (n1 : n ≤ 8) (h : 281474976710656 ≤ p ∨ 281474976710656 - p < n) (w : World) : Calls Try.prog 19 #[.slice none 0 0, .int .u64 p, .int .i64 n, .int .i64 pm] w fun e w' => e = .returned (.int .i64 1) ∧ w' = w := by
  by_cases h1 : 281474976710656 ≤ p
  · clear h
    go_enter Try.func19, Try.ntmps19
    go_wp2
    go_ret
    exact ⟨rfl, rfl⟩
  · have h2 : 281474976710656 - p < n := by omega
    clear h
    go_enter Try.func19, Try.ntmps19
    go_wp2
    go_ret
    exact ⟨rfl, rfl⟩
set_option maxHeartbeats 1000000 in
theorem asked19_near (p n pm : Int) (a0 : 0 ≤ p) (a1 : p < 18446744073709551616) (n0 : 0 < n) (n1 : n ≤ 8) (h : ¬ (281474976710656 ≤ p ∨ 281474976710656 - p < n)) (w : World) : Calls Try.prog 19 #[.slice none 0 0, .int .u64 p, .int .i64 n, .int .i64 pm] w fun e w' => e = .returned (.int .i64 20) ∧ w' = w := by
  have h1 : p < 281474976710656 := by omega
  have h2 : ¬ 281474976710656 - p < n := by omega
  clear h
  go_enter Try.func19, Try.ntmps19
  go_wp2_with fail
  go_loopw [9] (fun x wr => x = .int .i64 0 ∧ wr = w) (fun _ _ => 0)
  case atStart => exact ⟨rfl, rfl⟩
  case round =>
    obtain ⟨rfl, rfl⟩ := hrel
    go_wp2_with ((go_at_call 30; refine (find30_nil _ _).mono ?_; rintro e w2 ⟨rfl, e2⟩; subst e2))
    go_ret
    exact ⟨rfl, rfl⟩
theorem asked19 (p n pm : Int) (a0 : 0 ≤ p) (a1 : p < 18446744073709551616) (hn : n = 1 ∨ n = 2 ∨ n = 4 ∨ n = 8) (w : World) : Calls Try.prog 19 #[.slice none 0 0, .int .u64 p, .int .i64 n, .int .i64 pm] w fun e w' => e = .returned (.int .i64 (loadE p n)) ∧ w' = w := by
  unfold loadE
  rw [if_pos hn]
  by_cases h : 281474976710656 ≤ p ∨ 281474976710656 - p < n
  · rw [if_pos h]
    exact asked19_far p n pm a0 a1 (by omega) (by omega) h w
  · rw [if_neg h]
    exact asked19_near p n pm a0 a1 (by omega) (by omega) h w
set_option maxHeartbeats 1000000 in
theorem load7_nil (p n : Int) (a0 : 0 ≤ p) (a1 : p < 18446744073709551616) (w : World) : Calls Try.prog 7 #[.slice none 0 0, .int .u64 p, .int .i64 n] w fun e w' => e = .returned (.tuple #[.int .u64 0, .int .i64 (loadE p n)]) ∧ w' = w := by
  by_cases hn : n = 1 ∨ n = 2 ∨ n = 4 ∨ n = 8
  · have HU : Hid (∀ W, Calls Try.prog 19 #[.slice none 0 0, .int .u64 p, .int .i64 n, .int .i64 4] W fun e w' => e = .returned (.int .i64 (loadE p n)) ∧ w' = W) := fun W => asked19 p n 4 a0 a1 hn W
    have hx : ¬ loadE p n = 0 := by rcases loadE_ne p n with h | h <;> omega
    generalize loadE p n = x at *
    rcases hn with rfl | rfl | rfl | rfl
    all_goals
      go_enter Try.func7, Try.ntmps7
      go_wp2_with fail
      refine (HU.out _).mono ?_
      rintro e w1 ⟨rfl, e1⟩
      subst e1
      go_wp2
      go_ret2
      exact ⟨rfl, rfl⟩
  · rw [show loadE p n = 1 from if_neg hn]
    have h1 : (n != 1) = true := by simp; omega
    have h2 : (n != 2) = true := by simp; omega
    have h3 : (n != 4) = true := by simp; omega
    have h4 : (n != 8) = true := by simp; omega
    clear hn
    go_enter Try.func7, Try.ntmps7
    go_wp2
    go_ret2
    exact ⟨rfl, rfl⟩
end Go.Proofs.Ytndbkkldfinggac
