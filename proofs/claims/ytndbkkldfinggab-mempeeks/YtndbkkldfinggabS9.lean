/- Sorting numbers of the kind uint64: the random numbers, the next power of two. -/
import Derived.Test.YtndbkkldfinggabS8
import Derived.Test.YtndbkkldfinggabShelf
import Derived.Sort.LotD5
import Derived.Sort.WalkA14
import Derived.Laws.Bits64
namespace Go.Proofs.Ytndbkkldfinggab
open Go.RowKit Go.Shelf Go.Sort
theorem setCell_twice (w : World) (blk off : Nat) (v v' : Value) : (w.setCell ⟨blk, off, none⟩ v).setCell ⟨blk, off, none⟩ v' = w.setCell ⟨blk, off, none⟩ v' := by
  rw [setCell_eq, setCell_eq, setCell_eq, mapBlock_mapBlock]
  exact mapBlock_congr _ _ _ _ (fun c _ _ _ => by simp)
set_option maxHeartbeats 4000000 in
set_option maxRecDepth 100000 in
theorem next74 (rb X : Nat) (hX : X < 18446744073709551616) (w : World) (hc : w.cell? ⟨rb, 0, none⟩ = some (.int .u64 X)) (hf : w.frozen? ⟨rb, 0, none⟩ = false) :
    Calls Try.prog 74 #[.pointer (some ⟨rb, 0, none⟩)] w fun e w' => e = .returned (.int .u64 (xorNextN X : Nat)) ∧ ∃ q, w' = (w.setCell ⟨rb, 0, none⟩ (.int .u64 (xorNextN X : Nat))).drewN q := by
  obtain ⟨x1, h1⟩ : ∃ x : Nat, X ^^^ (X * 8192 % 18446744073709551616) = x := ⟨_, rfl⟩
  obtain ⟨x2, h2⟩ : ∃ x : Nat, x1 ^^^ (x1 / 128) = x := ⟨_, rfl⟩
  obtain ⟨x3, h3⟩ : ∃ x : Nat, x2 ^^^ (x2 * 131072 % 18446744073709551616) = x := ⟨_, rfl⟩
  have l1 : x1 < 18446744073709551616 := by rw [← h1]; exact Nat.xor_lt_two_pow (n := 64) (by omega) (by omega)
  have l2 : x2 < 18446744073709551616 := by rw [← h2]; exact Nat.xor_lt_two_pow (n := 64) (by omega) (by omega)
  have y1 : bits .xor .u64 (X : Int) (IntKind.u64.wrap ((X : Int) * 8192)) = (x1 : Int) := by
    rw [show IntKind.u64.wrap ((X : Int) * 8192) = ((X * 8192 % 18446744073709551616 : Nat) : Int) by simp [IntKind.wrap, IntKind.signed, IntKind.bits], bits_xor_u64_nat _ _ hX (by omega), h1]
  have y2 : bits .xor .u64 (x1 : Int) ((x1 : Int) / 128) = (x2 : Int) := by
    rw [show ((x1 : Int) / 128) = ((x1 / 128 : Nat) : Int) by omega, bits_xor_u64_nat _ _ l1 (by omega), h2]
  have y3 : bits .xor .u64 (x2 : Int) (IntKind.u64.wrap ((x2 : Int) * 131072)) = (x3 : Int) := by
    rw [show IntKind.u64.wrap ((x2 : Int) * 131072) = ((x2 * 131072 % 18446744073709551616 : Nat) : Int) by simp [IntKind.wrap, IntKind.signed, IntKind.bits], bits_xor_u64_nat _ _ l2 (by omega), h3]
  have hv : xorNextN X = x3 := by unfold xorNextN; simp only []; rw [h1, h2, h3]
  rw [hv]
  clear h1 h2 h3 hv
  have hss : ∀ v v', (w.setCell ⟨rb, 0, none⟩ v).setCell ⟨rb, 0, none⟩ v' = w.setCell ⟨rb, 0, none⟩ v' := setCell_twice w rb 0
  go_enter Try.func74, Try.ntmps74
  go_wp2
  go_region
  all_goals go_wp2
  all_goals go_region
  all_goals go_wp2
  all_goals go_region
  all_goals go_wp2
  go_ret
  exact ⟨rfl, 3, rfl⟩
theorem len60 (n : Nat) (hn : n ≤ 65536) (w : World) : Calls Try.prog 60 #[.int .u64 n] w fun e w' => e = .returned (.int .i64 (bitsLen n : Nat)) ∧ w' = w := by
  have h := Try.bits_Len (n : Int) w (by omega) (by omega)
  rwa [Int.toNat_natCast, bitLen_eq _ (by omega)] at h
set_option maxHeartbeats 1000000 in
theorem pow73 (n : Nat) (hn : n ≤ 65536) (w : World) : Calls Try.prog 73 #[.int .i64 n] w fun e w' => e = .returned (.int .u64 ((1 <<< bitsLen n : Nat) : Int)) ∧ w' = w := by
  have HL : Hid (∀ w, Calls Try.prog 60 #[.int .u64 n] w fun e w' => e = .returned (.int .i64 (bitsLen n : Nat)) ∧ w' = w) := len60 n hn
  have hk : bitsLen n ≤ 17 := (bitsLen_le_iff n 17).2 (by omega)
  generalize bitsLen n = k at *
  have wr : IntKind.u64.wrap (n : Int) = n := by simp [IntKind.wrap, IntKind.bits, IntKind.signed]; omega
  have hp : IntKind.u64.wrap (2 ^ k) = ((1 <<< k : Nat) : Int) := by
    rcases (by omega : k = 0 ∨ k = 1 ∨ k = 2 ∨ k = 3 ∨ k = 4 ∨ k = 5 ∨ k = 6 ∨ k = 7 ∨ k = 8 ∨ k = 9 ∨ k = 10 ∨ k = 11 ∨ k = 12 ∨ k = 13 ∨ k = 14 ∨ k = 15 ∨ k = 16 ∨ k = 17) with rfl | rfl | rfl | rfl | rfl | rfl | rfl | rfl | rfl | rfl | rfl | rfl | rfl | rfl | rfl | rfl | rfl | rfl <;> rfl
  have HP : Hid (IntKind.u64.wrap (2 ^ k) = ((1 <<< k : Nat) : Int)) := hp
  clear hp
  go_enter Try.func73, Try.ntmps73
  go_wp2_with (first | (go_at_call 60; refine (HL.out _).mono ?_; rintro e w' ⟨rfl, rfl⟩))
  go_ret
  exact ⟨ret_int HP.out, rfl⟩
end Go.Proofs.Ytndbkkldfinggab
