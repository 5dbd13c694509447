/- Plain arithmetic on bits of 32-bit words: masks are remainders, and of parts that do not meet is their sum; nothing of the program. -/
import Derived.Test.YtndbkkldfinggaaDoorArith
namespace Go.Proofs.YtndbkkldfinggaaDoor

theorem mask32 (k : Nat) (msk p a : Int) (hp : p = ((2 ^ k : Nat) : Int)) (hm : msk = p - 1) (hk : k ≤ 32) (h0 : 0 ≤ a) (h1 : a < 4294967296) : bits .and .u32 a msk = a % p := by
  have e2 : 0 < 2 ^ k := Nat.two_pow_pos k
  have e3 : 2 ^ k ≤ 2 ^ 32 := Nat.pow_le_pow_right (by omega) hk
  subst hm
  rw [u32_and a (p - 1) h0 h1 (by omega) (by omega)]
  have e : (p - 1).toNat = 2 ^ k - 1 := by omega
  rw [e, Nat.and_two_pow_sub_one_eq_mod, Int.natCast_emod, Int.toNat_of_nonneg h0, hp]

theorem or_split (k lo hi lo' hi' : Nat) (h : lo < 2 ^ k) (h' : lo' < 2 ^ k) : (lo + 2 ^ k * hi) ||| (lo' + 2 ^ k * hi') = (lo ||| lo') + 2 ^ k * (hi ||| hi') := by
  apply Nat.eq_of_testBit_eq
  intro j
  have hl : lo ||| lo' < 2 ^ k := Nat.or_lt_two_pow h h'
  rw [Nat.testBit_or, Nat.add_comm lo, Nat.add_comm lo', Nat.add_comm (lo ||| lo'), Nat.testBit_two_pow_mul_add _ h, Nat.testBit_two_pow_mul_add _ h', Nat.testBit_two_pow_mul_add _ hl]
  split <;> simp [Nat.testBit_or]

theorem or_zero {x y : Nat} (h : x = 0 ∨ y = 0) : x ||| y = x + y := by rcases h with rfl | rfl <;> simp

/-- Seven fields, the lowest first, of 7, 5, 3, 5, 5, 1 and 6 bits. -/
def S7 (c d f a b g h : Nat) : Nat := c + 2 ^ 7 * (d + 2 ^ 5 * (f + 2 ^ 3 * (a + 2 ^ 5 * (b + 2 ^ 5 * (g + 2 ^ 1 * h)))))

theorem S7_or {c d f a b g h c' d' f' a' b' g' h' : Nat} (h1 : c < 128) (h2 : d < 32) (h3 : f < 8) (h4 : a < 32) (h5 : b < 32) (h6 : g < 2) (k1 : c' < 128) (k2 : d' < 32) (k3 : f' < 8) (k4 : a' < 32) (k5 : b' < 32) (k6 : g' < 2)
    (z1 : c = 0 ∨ c' = 0) (z2 : d = 0 ∨ d' = 0) (z3 : f = 0 ∨ f' = 0) (z4 : a = 0 ∨ a' = 0) (z5 : b = 0 ∨ b' = 0) (z6 : g = 0 ∨ g' = 0) (z7 : h = 0 ∨ h' = 0) :
    S7 c d f a b g h ||| S7 c' d' f' a' b' g' h' = S7 c d f a b g h + S7 c' d' f' a' b' g' h' := by
  unfold S7
  rw [or_split 7 _ _ _ _ h1 k1, or_split 5 _ _ _ _ h2 k2, or_split 3 _ _ _ _ h3 k3, or_split 5 _ _ _ _ h4 k4, or_split 5 _ _ _ _ h5 k5, or_split 1 _ _ _ _ h6 k6, or_zero z1, or_zero z2, or_zero z3, or_zero z4, or_zero z5, or_zero z6, or_zero z7]
  omega

/-- The or of two words that share no field is their sum. -/
theorem or_disj (A B : Int) (hA : 0 ≤ A) (hA' : A < 4294967296) (hB : 0 ≤ B) (hB' : B < 4294967296)
    (z1 : A % 128 = 0 ∨ B % 128 = 0) (z2 : A / 128 % 32 = 0 ∨ B / 128 % 32 = 0) (z3 : A / 4096 % 8 = 0 ∨ B / 4096 % 8 = 0) (z4 : A / 32768 % 32 = 0 ∨ B / 32768 % 32 = 0) (z5 : A / 1048576 % 32 = 0 ∨ B / 1048576 % 32 = 0)
    (z6 : A / 33554432 % 2 = 0 ∨ B / 33554432 % 2 = 0) (z7 : A / 67108864 = 0 ∨ B / 67108864 = 0) : bits .or .u32 A B = A + B := by
  obtain ⟨x, rfl⟩ := Int.eq_ofNat_of_zero_le hA
  obtain ⟨y, rfl⟩ := Int.eq_ofNat_of_zero_le hB
  rw [u32_or_nat x y (by omega) (by omega)]
  have ex : x = S7 (x % 128) (x / 128 % 32) (x / 4096 % 8) (x / 32768 % 32) (x / 1048576 % 32) (x / 33554432 % 2) (x / 67108864) := by unfold S7; omega
  have ey : y = S7 (y % 128) (y / 128 % 32) (y / 4096 % 8) (y / 32768 % 32) (y / 1048576 % 32) (y / 33554432 % 2) (y / 67108864) := by unfold S7; omega
  have e : x ||| y = x + y := by
    rw [ex, ey]
    refine S7_or (by omega) (by omega) (by omega) (by omega) (by omega) (by omega) (by omega) (by omega) (by omega) (by omega) (by omega) (by omega) ?_ ?_ ?_ ?_ ?_ ?_ ?_ <;> omega
  rw [e]; omega

/-- low | high -/
theorem or_lh (i : Nat) (p a b : Int) (hp : p = ((2 ^ i : Nat) : Int)) (ha0 : 0 ≤ a) (ha : a < p) (hb : b % p = 0) (hb0 : 0 ≤ b) (hb1 : b < 4294967296) (ha1 : a < 4294967296) : bits .or .u32 a b = a + b := by
  obtain ⟨x, rfl⟩ := Int.eq_ofNat_of_zero_le ha0
  obtain ⟨y, rfl⟩ := Int.eq_ofNat_of_zero_le hb0
  rw [u32_or_nat x y (by omega) (by omega), Nat.or_comm, nat_join i y x (by subst hp; exact_mod_cast hb) (by subst hp; exact_mod_cast ha)]
  omega

/-- high | low -/
theorem or_hl (i : Nat) (p a b : Int) (hp : p = ((2 ^ i : Nat) : Int)) (hb0 : 0 ≤ b) (hb : b < p) (ha : a % p = 0) (ha0 : 0 ≤ a) (ha1 : a < 4294967296) (hb1 : b < 4294967296) : bits .or .u32 a b = a + b := by
  obtain ⟨x, rfl⟩ := Int.eq_ofNat_of_zero_le ha0
  obtain ⟨y, rfl⟩ := Int.eq_ofNat_of_zero_le hb0
  rw [u32_or_nat x y (by omega) (by omega), nat_join i x y (by subst hp; exact_mod_cast ha) (by subst hp; exact_mod_cast hb)]
  omega

/-- A number's bits where a form has them: of the number as 32 bits. -/
def spr (l m : Int) : Int :=
  if l = 85 then m % 1048576 * 4096
  else if l = 74 then m / 4096 % 256 * 4096 + m / 2048 % 2 * 1048576 + m / 2 % 1024 * 2097152 + m / 1048576 % 2 * 2147483648
  else if l = 73 ∨ l = 76 ∨ l = 72 ∨ l = 87 then m % 4096 * 1048576
  else if l = 83 then m % 32 * 128 + m / 32 % 128 * 33554432
  else if l = 66 then (m / 2 % 16 * 2 + m / 2048 % 2) * 128 + (m / 32 % 64 + m / 4096 % 2 * 64) * 33554432
  else 0

theorem spr_J (m : Int) (h0 : 0 ≤ m) (h1 : m < 4294967296) : bits BinOp.or IntKind.u32
    (bits BinOp.or IntKind.u32
      (bits BinOp.or IntKind.u32 (bits BinOp.and IntKind.u32 (m / 4096) 255 * 4096 % 4294967296)
        (bits BinOp.and IntKind.u32 (m / 2048) 1 * 1048576 % 4294967296))
      (bits BinOp.and IntKind.u32 (m / 2) 1023 * 2097152 % 4294967296))
    (bits BinOp.and IntKind.u32 (m / 1048576) 1 * 2147483648 % 4294967296) = spr 74 m := by
  rw [mask32 8 255 256 (m / 4096) rfl rfl (by omega) (by omega) (by omega), mask32 1 1 2 (m / 2048) rfl rfl (by omega) (by omega) (by omega), mask32 10 1023 1024 (m / 2) rfl rfl (by omega) (by omega) (by omega), mask32 1 1 2 (m / 1048576) rfl rfl (by omega) (by omega) (by omega)]
  have g1 : 0 ≤ m / 4096 % 256 ∧ m / 4096 % 256 < 256 := by omega
  have g2 : 0 ≤ m / 2048 % 2 ∧ m / 2048 % 2 < 2 := by omega
  have g3 : 0 ≤ m / 2 % 1024 ∧ m / 2 % 1024 < 1024 := by omega
  have g4 : 0 ≤ m / 1048576 % 2 ∧ m / 1048576 % 2 < 2 := by omega
  show _ = m / 4096 % 256 * 4096 + m / 2048 % 2 * 1048576 + m / 2 % 1024 * 2097152 + m / 1048576 % 2 * 2147483648
  generalize m / 4096 % 256 = x1 at *
  generalize m / 2048 % 2 = x2 at *
  generalize m / 2 % 1024 = x3 at *
  generalize m / 1048576 % 2 = x4 at *
  rw [or_lh 20 1048576 (x1 * 4096 % 4294967296) (x2 * 1048576 % 4294967296) rfl (by omega) (by omega) (by omega) (by omega) (by omega) (by omega), or_lh 21 2097152 (x1 * 4096 % 4294967296 + x2 * 1048576 % 4294967296) (x3 * 2097152 % 4294967296) rfl (by omega) (by omega) (by omega) (by omega) (by omega) (by omega), or_lh 31 2147483648 (x1 * 4096 % 4294967296 + x2 * 1048576 % 4294967296 + x3 * 2097152 % 4294967296) (x4 * 2147483648 % 4294967296) rfl (by omega) (by omega) (by omega) (by omega) (by omega) (by omega)]
  omega

theorem spr_S (m : Int) (h0 : 0 ≤ m) (h1 : m < 4294967296) : bits BinOp.or IntKind.u32 (bits BinOp.and IntKind.u32 m 31 * 128 % 4294967296)
    (bits BinOp.and IntKind.u32 (m / 32) 127 * 33554432 % 4294967296) = spr 83 m := by
  rw [mask32 5 31 32 m rfl rfl (by omega) (by omega) (by omega), mask32 7 127 128 (m / 32) rfl rfl (by omega) (by omega) (by omega)]
  rw [or_lh 25 33554432 (m % 32 * 128 % 4294967296) (m / 32 % 128 * 33554432 % 4294967296) rfl (by omega) (by omega) (by omega) (by omega) (by omega) (by omega)]
  show _ = m % 32 * 128 + m / 32 % 128 * 33554432
  omega

theorem spr_B (m : Int) (h0 : 0 ≤ m) (h1 : m < 4294967296) : bits BinOp.or IntKind.u32
    (bits BinOp.and IntKind.u32
          (bits BinOp.or IntKind.u32
            (bits BinOp.or IntKind.u32 (bits BinOp.and IntKind.u32 (m / 2) 1023 * 2 % 4294967296)
              (bits BinOp.and IntKind.u32 (m / 2048) 1 % 4294967296))
            (bits BinOp.and IntKind.u32 (m / 4096) 1 * 2048 % 4294967296))
          31 *
        128 %
      4294967296)
    (bits BinOp.and IntKind.u32
          (bits BinOp.or IntKind.u32
              (bits BinOp.or IntKind.u32 (bits BinOp.and IntKind.u32 (m / 2) 1023 * 2 % 4294967296)
                (bits BinOp.and IntKind.u32 (m / 2048) 1 % 4294967296))
              (bits BinOp.and IntKind.u32 (m / 4096) 1 * 2048 % 4294967296) /
            32)
          127 *
        33554432 %
      4294967296) = spr 66 m := by
  rw [mask32 10 1023 1024 (m / 2) rfl rfl (by omega) (by omega) (by omega), mask32 1 1 2 (m / 2048) rfl rfl (by omega) (by omega) (by omega), mask32 1 1 2 (m / 4096) rfl rfl (by omega) (by omega) (by omega)]
  have g1 : 0 ≤ m / 2 % 1024 ∧ m / 2 % 1024 < 1024 := by omega
  have g2 : 0 ≤ m / 2048 % 2 ∧ m / 2048 % 2 < 2 := by omega
  have g3 : 0 ≤ m / 4096 % 2 ∧ m / 4096 % 2 < 2 := by omega
  have e1 : m / 2 % 16 = m / 2 % 1024 % 16 := by omega
  have e2 : m / 32 % 64 = m / 2 % 1024 / 16 := by omega
  show _ = (m / 2 % 16 * 2 + m / 2048 % 2) * 128 + (m / 32 % 64 + m / 4096 % 2 * 64) * 33554432
  rw [e1, e2]
  clear e1 e2
  generalize m / 2 % 1024 = x1 at *
  generalize m / 2048 % 2 = x2 at *
  generalize m / 4096 % 2 = x3 at *
  rw [or_hl 1 2 (x1 * 2 % 4294967296) (x2 % 4294967296) rfl (by omega) (by omega) (by omega) (by omega) (by omega) (by omega), or_lh 11 2048 (x1 * 2 % 4294967296 + x2 % 4294967296) (x3 * 2048 % 4294967296) rfl (by omega) (by omega) (by omega) (by omega) (by omega) (by omega)]
  rw [mask32 5 31 32 (x1 * 2 % 4294967296 + x2 % 4294967296 + x3 * 2048 % 4294967296) rfl rfl (by omega) (by omega) (by omega), mask32 7 127 128 ((x1 * 2 % 4294967296 + x2 % 4294967296 + x3 * 2048 % 4294967296) / 32) rfl rfl (by omega) (by omega) (by omega)]
  have c1 : (x1 * 2 % 4294967296 + x2 % 4294967296 + x3 * 2048 % 4294967296) % 32 = x1 % 16 * 2 + x2 := by omega
  have c2 : (x1 * 2 % 4294967296 + x2 % 4294967296 + x3 * 2048 % 4294967296) / 32 % 128 = x1 / 16 + x3 * 64 := by omega
  rw [c1, c2, or_lh 25 33554432 ((x1 % 16 * 2 + x2) * 128 % 4294967296) ((x1 / 16 + x3 * 64) * 33554432 % 4294967296) rfl (by omega) (by omega) (by omega) (by omega) (by omega) (by omega)]
  omega

end Go.Proofs.YtndbkkldfinggaaDoor
