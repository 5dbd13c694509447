/- Plain arithmetic: the document's ors of fields are the same word; nothing of the program. -/
import Derived.Test.YtndbkkldfinggaaDoorG0
namespace Go.Proofs.YtndbkkldfinggaaDoor

/-- Eight fields, the lowest first, of 7, 1, 4, 3, 5, 5, 1 and 6 bits. -/
def S8 (c d0 d f a b g h : Nat) : Nat := c + 2 ^ 7 * (d0 + 2 ^ 1 * (d + 2 ^ 4 * (f + 2 ^ 3 * (a + 2 ^ 5 * (b + 2 ^ 5 * (g + 2 ^ 1 * h))))))
theorem S8_or {c d0 d f a b g h c' d0' d' f' a' b' g' h' : Nat} (h1 : c < 128) (h0 : d0 < 2) (h2 : d < 16) (h3 : f < 8) (h4 : a < 32) (h5 : b < 32) (h6 : g < 2) (k1 : c' < 128) (k0 : d0' < 2) (k2 : d' < 16) (k3 : f' < 8) (k4 : a' < 32) (k5 : b' < 32) (k6 : g' < 2)
    (z1 : c = 0 ∨ c' = 0) (z0 : d0 = 0 ∨ d0' = 0) (z2 : d = 0 ∨ d' = 0) (z3 : f = 0 ∨ f' = 0) (z4 : a = 0 ∨ a' = 0) (z5 : b = 0 ∨ b' = 0) (z6 : g = 0 ∨ g' = 0) (z7 : h = 0 ∨ h' = 0) :
    S8 c d0 d f a b g h ||| S8 c' d0' d' f' a' b' g' h' = S8 c d0 d f a b g h + S8 c' d0' d' f' a' b' g' h' := by
  unfold S8
  rw [or_split 7 _ _ _ _ h1 k1, or_split 1 _ _ _ _ h0 k0, or_split 4 _ _ _ _ h2 k2, or_split 3 _ _ _ _ h3 k3, or_split 5 _ _ _ _ h4 k4, or_split 5 _ _ _ _ h5 k5, or_split 1 _ _ _ _ h6 k6, or_zero z1, or_zero z0, or_zero z2, or_zero z3, or_zero z4, or_zero z5, or_zero z6, or_zero z7]
  omega
theorem or_disj8 (A B : Int) (hA : 0 ≤ A) (hA' : A < 4294967296) (hB : 0 ≤ B) (hB' : B < 4294967296)
    (z1 : A % 128 = 0 ∨ B % 128 = 0) (z0 : A / 128 % 2 = 0 ∨ B / 128 % 2 = 0) (z2 : A / 256 % 16 = 0 ∨ B / 256 % 16 = 0) (z3 : A / 4096 % 8 = 0 ∨ B / 4096 % 8 = 0) (z4 : A / 32768 % 32 = 0 ∨ B / 32768 % 32 = 0) (z5 : A / 1048576 % 32 = 0 ∨ B / 1048576 % 32 = 0)
    (z6 : A / 33554432 % 2 = 0 ∨ B / 33554432 % 2 = 0) (z7 : A / 67108864 = 0 ∨ B / 67108864 = 0) : bits .or .u32 A B = A + B := by
  obtain ⟨x, rfl⟩ := Int.eq_ofNat_of_zero_le hA
  obtain ⟨y, rfl⟩ := Int.eq_ofNat_of_zero_le hB
  rw [u32_or_nat x y (by omega) (by omega)]
  have ex : x = S8 (x % 128) (x / 128 % 2) (x / 256 % 16) (x / 4096 % 8) (x / 32768 % 32) (x / 1048576 % 32) (x / 33554432 % 2) (x / 67108864) := by unfold S8; omega
  have ey : y = S8 (y % 128) (y / 128 % 2) (y / 256 % 16) (y / 4096 % 8) (y / 32768 % 32) (y / 1048576 % 32) (y / 33554432 % 2) (y / 67108864) := by unfold S8; omega
  have e : x ||| y = x + y := by
    rw [ex, ey]
    refine S8_or (by omega) (by omega) (by omega) (by omega) (by omega) (by omega) (by omega) (by omega) (by omega) (by omega) (by omega) (by omega) (by omega) (by omega) ?_ ?_ ?_ ?_ ?_ ?_ ?_ ?_ <;> omega
  rw [e]; omega

/-- The base of the document's word: opcode, funct3, registers. -/
theorem base_or {c f rd r1 r2 : Int} (hc : 0 ≤ c) (hc' : c < 128) (f0 : 0 ≤ f) (f1 : f < 8) (d0 : 0 ≤ rd) (d1 : rd ≤ 31) (a0 : 0 ≤ r1) (a1 : r1 ≤ 31) (b0 : 0 ≤ r2) (b1 : r2 ≤ 31) :
    bits .or .u32 (bits .or .u32 (bits .or .u32 (bits .or .u32 c (f * 4096)) (rd * 128)) (r1 * 32768)) (r2 * 1048576) = c + f * 4096 + rd * 128 + r1 * 32768 + r2 * 1048576 := by
  have e1 : bits .or .u32 c (f * 4096) = c + f * 4096 := by apply or_disj <;> omega
  have e2 : bits .or .u32 (c + f * 4096) (rd * 128) = c + f * 4096 + rd * 128 := by apply or_disj <;> omega
  have e3 : bits .or .u32 (c + f * 4096 + rd * 128) (r1 * 32768) = c + f * 4096 + rd * 128 + r1 * 32768 := by apply or_disj <;> omega
  have e4 : bits .or .u32 (c + f * 4096 + rd * 128 + r1 * 32768) (r2 * 1048576) = c + f * 4096 + rd * 128 + r1 * 32768 + r2 * 1048576 := by apply or_disj <;> omega
  rw [e1, e2, e3, e4]
end Go.Proofs.YtndbkkldfinggaaDoor
