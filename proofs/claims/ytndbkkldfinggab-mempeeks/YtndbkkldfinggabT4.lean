/- Sorting numbers of the kind uint64: slices.Sort. -/
import Derived.Test.YtndbkkldfinggabT3
namespace Go.Proofs.Ytndbkkldfinggab
open Go.RowKit Go.Shelf Go.Sort
set_option maxHeartbeats 1000000 in
theorem sort56 (blk off len cap : Nat) (d : Array Int) (w : World) (hH : Rw w blk off d w) (hsz : d.size = len) (hs : len ≤ 65536) :
    Calls Try.prog 56 #[.slice (some ⟨blk, off, none⟩) len cap] w fun e w' => e = .returned (.tuple #[]) ∧ Rw w blk off (Sort.sort ltInt d) w' := by
  have hk : bitsLen len ≤ 17 := (bitsLen_le_iff len 17).2 (by omega)
  have HL : Hid (∀ w, Calls Try.prog 60 #[.int .u64 len] w fun e w' => e = .returned (.int .i64 (bitsLen len : Nat)) ∧ w' = w) := len60 len hs
  have HP : Hid (Calls Try.prog 59 #[.slice (some ⟨blk, off, none⟩) len cap, .int .i64 0, .int .i64 len, .int .i64 (bitsLen len : Nat)] w fun e w' => e = .returned (.tuple #[]) ∧ Rw w blk off (Sort.sort ltInt d) w') := by
    have t := pdq59 blk off len cap hs (len + 1) 0 len (bitsLen len) d w (by omega) (by omega) (Nat.le_refl _) hsz hH (by omega)
    have e : Sort.sort ltInt d = pdq ltInt d 0 len (bitsLen len) true true := by unfold Sort.sort; rw [hsz]
    rw [e]
    exact t
  have wr : IntKind.u64.wrap (len : Int) = len := by simp [IntKind.wrap, IntKind.bits, IntKind.signed]; omega
  generalize bitsLen len = k at *
  clear hH
  go_enter Try.func56, Try.ntmps56
  go_wp2_with fail
  refine (HL.out _).mono ?_
  rintro e w1 ⟨rfl, e1⟩
  subst e1
  go_wp2_with fail
  refine HP.out.mono ?_
  rintro e w2 ⟨rfl, hr⟩
  have H2 : Hid (Rw w1 blk off (Sort.sort ltInt d) w2) := hr
  clear hr
  go_wp2
  go_end0
  exact ⟨rfl, H2.out⟩
set_option maxHeartbeats 1000000 in
theorem ins61_nil (w : World) : Calls Try.prog 61 #[.slice none 0 0, .int .i64 0, .int .i64 0] w fun e w' => e = .returned (.tuple #[]) ∧ w' = w := by
  go_enter Try.func61, Try.ntmps61
  go_wp2_with fail
  go_loopw [6] (fun x wr => x = .int .i64 1 ∧ wr = w) (fun _ _ => 0)
  case atStart => exact ⟨rfl, rfl⟩
  case round =>
    obtain ⟨rfl, rfl⟩ := hrel
    go_wp2
    go_end0
    exact ⟨rfl, rfl⟩
set_option maxHeartbeats 1000000 in
theorem pdq59_nil (w : World) : Calls Try.prog 59 #[.slice none 0 0, .int .i64 0, .int .i64 0, .int .i64 0] w fun e w' => e = .returned (.tuple #[]) ∧ w' = w := by
  go_enter Try.func59, Try.ntmps59
  go_wp2_with fail
  go_loopw [1, 2, 3, 8, 9] (fun a b c d e wr => a = .int .i64 0 ∧ b = .int .i64 0 ∧ c = .int .i64 0 ∧ d = .bool true ∧ e = .bool true ∧ wr = w) (fun _ _ _ _ _ _ => 0)
  case atStart => exact ⟨rfl, rfl, rfl, rfl, rfl, rfl⟩
  case round =>
    obtain ⟨rfl, rfl, rfl, rfl, rfl, rfl⟩ := hrel
    go_wp2_with fail
    refine (ins61_nil _).mono ?_
    rintro e w1 ⟨rfl, e1⟩
    subst e1
    go_wp2
    refine bodyPost_ret (results_none rfl _ _ _) rfl ?_
    exact ⟨rfl, rfl⟩
set_option maxHeartbeats 1000000 in
theorem sort56_nil (w : World) : Calls Try.prog 56 #[.slice none 0 0] w fun e w' => e = .returned (.tuple #[]) ∧ w' = w := by
  have HL : Hid (∀ w, Calls Try.prog 60 #[.int .u64 0] w fun e w' => e = .returned (.int .i64 0) ∧ w' = w) := fun w => len60 0 (by omega) w
  go_enter Try.func56, Try.ntmps56
  go_wp2_with fail
  refine (HL.out _).mono ?_
  rintro e w1 ⟨rfl, e1⟩
  subst e1
  go_wp2_with fail
  refine (pdq59_nil _).mono ?_
  rintro e w2 ⟨rfl, e2⟩
  subst e2
  go_wp2
  go_end0
  exact ⟨rfl, rfl⟩
/-- What is sorted, as a list. -/
theorem sort_list (zs : List Int) : (Sort.sort ltInt zs.toArray).toList = zs.mergeSort (fun x y => decide (x ≤ y)) := Sort.sortInt zs
end Go.Proofs.Ytndbkkldfinggab
