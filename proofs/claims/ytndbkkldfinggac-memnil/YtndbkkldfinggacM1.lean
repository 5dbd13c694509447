/- Walks of a memory that is nil: small functions. -/
import Derived.Test.YtndbkkldfinggacProg
import Derived.WalkKit
import Derived.WalkSpells
import Derived.WalkLawsBesides
import Derived.LoopTactic
import Derived.Deep.QuietTactic
import Derived.WalkSmall
namespace Go.Proofs.Ytndbkkldfinggac
open Go.RowKit
theorem dec_or {p q : Prop} [Decidable p] [Decidable q] (h : ¬ p) : decide q = (decide p || decide q) := by simp [h]
theorem ret_bool {a b : Bool} (h : a = b) : Ending.returned (.bool a) = .returned (.bool b) := by rw [h]
set_option maxHeartbeats 1000000 in
theorem beyond12 (at_ n : Int) (a0 : 0 ≤ at_) (a1 : at_ < 18446744073709551616) (_n0 : 0 ≤ n) (_n1 : n < 18446744073709551616) (w : World) : Calls Try.prog 12 #[.int .u64 at_, .int .u64 n] w fun e w' => e = .returned (.bool (decide (281474976710656 ≤ at_ ∨ 281474976710656 - at_ < n))) ∧ w' = w := by
  by_cases h : 281474976710656 ≤ at_
  · go_enter Try.func12, Try.ntmps12
    go_wp2
    all_goals go_ret
    all_goals exact ⟨ret_bool (by simp [h]), rfl⟩
  · go_enter Try.func12, Try.ntmps12
    go_wp2
    all_goals go_ret
    all_goals exact ⟨ret_bool (dec_or (by omega)), rfl⟩
set_option maxHeartbeats 1000000 in
theorem perm13_6 (w : World) : Calls Try.prog 13 #[.int .i64 6] w fun e w' => e = .returned (.bool true) ∧ w' = w := by
  go_enter Try.func13, Try.ntmps13
  go_wp2
  go_ret
  exact ⟨rfl, rfl⟩
set_option maxHeartbeats 1000000 in
theorem count24_nil (w : World) : Calls Try.prog 24 #[.pointer none] w fun e w' => e = .returned (.int .i64 0) ∧ w' = w := by
  go_enter Try.func24, Try.ntmps24
  go_wp2
  go_ret
  exact ⟨rfl, rfl⟩
set_option maxHeartbeats 1000000 in
theorem page25_nil (b : Int) (w : World) : Calls Try.prog 25 #[.pointer none, .int .u64 b] w fun e w' => e = .returned (.tuple #[.agg #[.int .u64 0, .int .i64 0, .slice none 0 0], .bool false]) ∧ Below w.heap.size w w' := by
  go_enter Try.func25, Try.ntmps25
  go_wp2
  refine bodyPost_ret (v := .tuple #[.agg #[.int .u64 0, .int .i64 0, .slice none 0 0], .bool false]) (by simp [results, Try.results25, go_sem]) rfl ⟨rfl, ?_⟩
  exact (Below.refl _ _).alloc (Nat.le_refl _) _
set_option maxHeartbeats 1000000 in
theorem free14_great (b s : Int) (h : 16777216 < s) (_s1 : s < 18446744073709551616) (w : World) : Calls Try.prog 14 #[.pointer none, .int .u64 b, .int .u64 s] w fun e w' => e = .returned (.bool false) ∧ Below w.heap.size w w' := by
  go_enter Try.func14, Try.ntmps14
  go_wp2_with fail
  refine (count24_nil _).mono ?_
  rintro e w1 ⟨rfl, h1⟩
  subst h1
  go_wp2
  go_ret
  exact ⟨rfl, Below.refl _ _⟩
set_option maxHeartbeats 1000000 in
theorem free14_nil (b s : Int) (b0 : 0 ≤ b) (b1 : b < 281474976710656) (s0 : 0 < s) (s1 : s ≤ 16777216) (w : World) : Calls Try.prog 14 #[.pointer none, .int .u64 b, .int .u64 s] w fun e w' => e = .returned (.bool true) ∧ Below w.heap.size w w' := by
  go_enter Try.func14, Try.ntmps14
  go_wp2_with fail
  refine (count24_nil _).mono ?_
  rintro e w1 ⟨rfl, h1⟩
  subst h1
  go_wp2_with fail
  go_loopw [7] (fun x wr => ∃ k : Nat, x = .int .u64 (b + 4096 * (k : Int)) ∧ 4096 * (k : Int) < s + 4096 ∧ Below w1.heap.size w1 wr) (fun x _ => (b + s + 4096 - intOf x).toNat)
  case atStart => exact ⟨0, by simp, by omega, Below.refl _ _⟩
  case round =>
    obtain ⟨k, rfl, hk, hb⟩ := hrel
    have HB : Hid (Below w1.heap.size w1 wr) := hb
    clear hb
    by_cases h : b + 4096 * (k : Int) < b + s
    · go_wp2_with fail
      refine (page25_nil _ _).mono ?_
      rintro e w2 ⟨rfl, hb2⟩
      have HB2 : Hid (Below w1.heap.size w1 w2) := HB.out.trans (hb2.mono HB.out.size)
      clear hb2
      go_wp2
      go_roundw
      case rel => exact ⟨k + 1, by go_num, by omega, HB2.out.alloc HB2.out.size _⟩
      case measure => simp [intOf]; omega
    · go_wp2
      go_ret
      exact ⟨rfl, HB.out⟩
/-- What Map tells of a memory that is nil. -/
def mapE (b s : Int) : Int := if ¬ b % 4096 = 0 ∨ s = 0 ∨ 281474976710656 ≤ b ∨ 281474976710656 - b < s then 1 else if 16777216 < s then 20 else 0
theorem ret_int {k : IntKind} {a b : Int} (h : a = b) : Ending.returned (.int k a) = .returned (.int k b) := by rw [h]
set_option maxHeartbeats 1000000 in
theorem map4_nil (b s : Int) (b0 : 0 ≤ b) (b1 : b < 18446744073709551616) (s0 : 0 ≤ s) (s1 : s < 18446744073709551616) (w : World) : Calls Try.prog 4 #[.pointer none, .int .u64 b, .int .i64 6, .int .u64 s] w fun e w' => e = .returned (.int .i64 (mapE b s)) ∧ Below w.heap.size w w' := by
  by_cases h1 : b % 4096 = 0
  · by_cases h2 : s = 0
    · rw [show mapE b s = 1 from if_pos (.inr (.inl h2))]
      subst h2
      go_enter Try.func4, Try.ntmps4
      go_wp2
      go_ret
      exact ⟨rfl, Below.refl _ _⟩
    · by_cases h3 : 281474976710656 ≤ b ∨ 281474976710656 - b < s
      · rw [show mapE b s = 1 from if_pos (.inr (.inr h3))]
        have HX : Hid (∀ W, Calls Try.prog 12 #[.int .u64 b, .int .u64 s] W fun e w' => e = .returned (.bool true) ∧ w' = W) := fun W => by have t := beyond12 b s b0 b1 s0 s1 W; rw [decide_eq_true h3] at t; exact t
        clear h3
        go_enter Try.func4, Try.ntmps4
        go_wp2_with fail
        refine (HX.out _).mono ?_
        rintro e w1 ⟨rfl, e1⟩
        subst e1
        go_wp2
        go_ret
        exact ⟨rfl, Below.refl _ _⟩
      · have HX : Hid (∀ W, Calls Try.prog 12 #[.int .u64 b, .int .u64 s] W fun e w' => e = .returned (.bool false) ∧ w' = W) := fun W => by have t := beyond12 b s b0 b1 s0 s1 W; rw [decide_eq_false h3] at t; exact t
        by_cases h4 : 16777216 < s
        · rw [show mapE b s = 20 from by unfold mapE; rw [if_neg (by omega), if_pos h4]]
          clear h3
          go_enter Try.func4, Try.ntmps4
          go_wp2_with fail
          refine (HX.out _).mono ?_
          rintro e w1 ⟨rfl, e1⟩
          subst e1
          go_wp2_with fail
          refine (perm13_6 _).mono ?_
          rintro e w1 ⟨rfl, e1⟩
          subst e1
          go_wp2_with fail
          refine (free14_great b s h4 s1 _).mono ?_
          rintro e w2 ⟨rfl, hb⟩
          go_wp2
          go_ret
          exact ⟨rfl, hb⟩
        · rw [show mapE b s = 0 from by unfold mapE; rw [if_neg (by omega), if_neg h4]]
          have q1 : b < 281474976710656 := by omega
          clear h3
          go_enter Try.func4, Try.ntmps4
          go_wp2_with fail
          refine (HX.out _).mono ?_
          rintro e w1 ⟨rfl, e1⟩
          subst e1
          go_wp2_with fail
          refine (perm13_6 _).mono ?_
          rintro e w1 ⟨rfl, e1⟩
          subst e1
          go_wp2_with fail
          refine (free14_nil b s b0 q1 (by omega) (by omega) _).mono ?_
          rintro e w2 ⟨rfl, hb⟩
          go_wp2
          go_ret
          exact ⟨rfl, hb⟩
  · rw [show mapE b s = 1 from if_pos (.inl h1)]
    go_enter Try.func4, Try.ntmps4
    go_wp2
    go_ret
    exact ⟨rfl, Below.refl _ _⟩
end Go.Proofs.Ytndbkkldfinggac
