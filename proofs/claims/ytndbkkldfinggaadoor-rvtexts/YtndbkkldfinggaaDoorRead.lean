/- Plain arithmetic of reading a word: masks, fields, numbers with their sign; nothing of the program. -/
import Derived.Test.YtndbkkldfinggaaDoorWords
namespace Go.Proofs.YtndbkkldfinggaaDoor

theorem and_split (k lo hi lo' hi' : Nat) (h : lo < 2 ^ k) (h' : lo' < 2 ^ k) : (lo + 2 ^ k * hi) &&& (lo' + 2 ^ k * hi') = (lo &&& lo') + 2 ^ k * (hi &&& hi') := by
  apply Nat.eq_of_testBit_eq
  intro j
  have hl : lo &&& lo' < 2 ^ k := Nat.and_lt_two_pow _ h'
  rw [Nat.testBit_and, Nat.add_comm lo, Nat.add_comm lo', Nat.add_comm (lo &&& lo'), Nat.testBit_two_pow_mul_add _ h, Nat.testBit_two_pow_mul_add _ h', Nat.testBit_two_pow_mul_add _ hl]
  split <;> simp [Nat.testBit_and]
theorem and_ones (x k : Nat) (h : x < 2 ^ k) : x &&& (2 ^ k - 1) = x := by rw [Nat.and_two_pow_sub_one_eq_mod, Nat.mod_eq_of_lt h]

/-- The bits by which a form's operations are told apart. -/
def mk (l : Int) : Int := if l = 85 ∨ l = 74 then 127 else if l = 73 ∨ l = 76 ∨ l = 83 ∨ l = 66 then 28799 else if l = 72 then 4227887231 else if l = 87 ∨ l = 82 then 4261441663 else 4294967295
/-- What they are in a word. -/
def andM (l w : Int) : Int := if l = 85 ∨ l = 74 then w % 128 else if l = 73 ∨ l = 76 ∨ l = 83 ∨ l = 66 then w % 128 + w / 4096 % 8 * 4096 else if l = 72 then w % 128 + w / 4096 % 8 * 4096 + w / 67108864 * 67108864 else if l = 87 ∨ l = 82 then w % 128 + w / 4096 % 8 * 4096 + w / 33554432 * 33554432 else w

theorem S7_and {c d f a b g h c' d' f' a' b' g' h' : Nat} (h1 : c < 128) (h2 : d < 32) (h3 : f < 8) (h4 : a < 32) (h5 : b < 32) (h6 : g < 2) (k1 : c' < 128) (k2 : d' < 32) (k3 : f' < 8) (k4 : a' < 32) (k5 : b' < 32) (k6 : g' < 2) :
    S7 c d f a b g h &&& S7 c' d' f' a' b' g' h' = S7 (c &&& c') (d &&& d') (f &&& f') (a &&& a') (b &&& b') (g &&& g') (h &&& h') := by
  unfold S7
  rw [and_split 7 _ _ _ _ h1 k1, and_split 5 _ _ _ _ h2 k2, and_split 3 _ _ _ _ h3 k3, and_split 5 _ _ _ _ h4 k4, and_split 5 _ _ _ _ h5 k5, and_split 1 _ _ _ _ h6 k6]

theorem and_fields (x g' h' : Nat) (hx : x < 4294967296) (hg : g' < 2) : x &&& S7 127 0 7 0 0 g' h' = S7 (x % 128) 0 (x / 4096 % 8) 0 0 (x / 33554432 % 2 &&& g') (x / 67108864 &&& h') := by
  have ex : x = S7 (x % 128) (x / 128 % 32) (x / 4096 % 8) (x / 32768 % 32) (x / 1048576 % 32) (x / 33554432 % 2) (x / 67108864) := by unfold S7; omega
  have e := S7_and (c := x % 128) (d := x / 128 % 32) (f := x / 4096 % 8) (a := x / 32768 % 32) (b := x / 1048576 % 32) (g := x / 33554432 % 2) (h := x / 67108864) (c' := 127) (d' := 0) (f' := 7) (a' := 0) (b' := 0) (g' := g') (h' := h') (by omega) (by omega) (by omega) (by omega) (by omega) (by omega) (by omega) (by omega) (by omega) (by omega) (by omega) hg
  rw [← ex] at e
  rw [e, and_ones (x % 128) 7 (by omega), and_ones (x / 4096 % 8) 3 (by omega)]
  simp

theorem and_mk (l w : Int) (hl : IsL l) (h0 : 0 ≤ w) (h1 : w < 4294967296) : bits .and .u32 w (mk l) = andM l w := by
  obtain ⟨x, rfl⟩ := Int.eq_ofNat_of_zero_le h0
  have hx : x < 4294967296 := by omega
  have a0 := and_fields x 0 0 hx (by omega)
  have a1 := and_fields x 0 63 hx (by omega)
  have a2 := and_fields x 1 63 hx (by omega)
  rw [and_ones (x / 67108864) 6 (by omega)] at a1 a2
  rw [and_ones (x / 33554432 % 2) 1 (by omega)] at a2
  rw [Nat.and_zero] at a0 a1
  rw [Nat.and_zero] at a0
  have u0 : bits .and .u32 (x : Int) 28799 = ((x &&& S7 127 0 7 0 0 0 0 : Nat) : Int) := u32_and_nat x 28799 hx (by omega)
  have u1 : bits .and .u32 (x : Int) 4227887231 = ((x &&& S7 127 0 7 0 0 0 63 : Nat) : Int) := u32_and_nat x 4227887231 hx (by omega)
  have u2 : bits .and .u32 (x : Int) 4261441663 = ((x &&& S7 127 0 7 0 0 1 63 : Nat) : Int) := u32_and_nat x 4261441663 hx (by omega)
  have u3 : bits .and .u32 (x : Int) 127 = (x : Int) % 128 := mask32 7 127 128 x rfl rfl (by omega) (by omega) (by omega)
  have u4 : bits .and .u32 (x : Int) 4294967295 = (x : Int) % 4294967296 := mask32 32 4294967295 4294967296 x rfl rfl (by omega) (by omega) (by omega)
  rw [a0] at u0
  rw [a1] at u1
  rw [a2] at u2
  unfold S7 at u0 u1 u2
  rcases hl with rfl | rfl | rfl | rfl | rfl | rfl | rfl | rfl | rfl | rfl
  · exact u3
  · exact u3
  · show bits .and .u32 (x : Int) 28799 = (x : Int) % 128 + (x : Int) / 4096 % 8 * 4096; rw [u0]; omega
  · show bits .and .u32 (x : Int) 28799 = (x : Int) % 128 + (x : Int) / 4096 % 8 * 4096; rw [u0]; omega
  · show bits .and .u32 (x : Int) 4227887231 = (x : Int) % 128 + (x : Int) / 4096 % 8 * 4096 + (x : Int) / 67108864 * 67108864; rw [u1]; omega
  · show bits .and .u32 (x : Int) 4261441663 = (x : Int) % 128 + (x : Int) / 4096 % 8 * 4096 + (x : Int) / 33554432 * 33554432; rw [u2]; omega
  · show bits .and .u32 (x : Int) 28799 = (x : Int) % 128 + (x : Int) / 4096 % 8 * 4096; rw [u0]; omega
  · show bits .and .u32 (x : Int) 28799 = (x : Int) % 128 + (x : Int) / 4096 % 8 * 4096; rw [u0]; omega
  · show bits .and .u32 (x : Int) 4261441663 = (x : Int) % 128 + (x : Int) / 4096 % 8 * 4096 + (x : Int) / 33554432 * 33554432; rw [u2]; omega
  · show bits .and .u32 (x : Int) 4294967295 = (x : Int); rw [u4]; omega

/-- Some bits of a word, moved. -/
def pv (l c a w : Int) : Int := w / 2 ^ l.toNat % 2 ^ c.toNat * 2 ^ a.toNat
theorem pv_25_7_0 (w : Int) : pv 25 7 0 w = w / 33554432 % 128 := by simp [pv]
theorem pv_12_2_0 (w : Int) : pv 12 2 0 w = w / 4096 % 4 := by simp [pv]
theorem pv_0_7_0 (w : Int) : pv 0 7 0 w = w % 128 := by simp [pv]
theorem pv_12_20_0 (w : Int) : pv 12 20 0 w = w / 4096 % 1048576 := by simp [pv]
theorem pv_12_8_12 (w : Int) : pv 12 8 12 w = w / 4096 % 256 * 4096 := by simp [pv]
theorem pv_20_1_11 (w : Int) : pv 20 1 11 w = w / 1048576 % 2 * 2048 := by simp [pv]
theorem pv_21_10_1 (w : Int) : pv 21 10 1 w = w / 2097152 % 1024 * 2 := by simp [pv]
theorem pv_31_1_20 (w : Int) : pv 31 1 20 w = w / 2147483648 % 2 * 1048576 := by simp [pv]
theorem pv_20_12_0 (w : Int) : pv 20 12 0 w = w / 1048576 % 4096 := by simp [pv]
theorem pv_20_6_0 (w : Int) : pv 20 6 0 w = w / 1048576 % 64 := by simp [pv]
theorem pv_20_5_0 (w : Int) : pv 20 5 0 w = w / 1048576 % 32 := by simp [pv]
theorem pv_7_5_0 (w : Int) : pv 7 5 0 w = w / 128 % 32 := by simp [pv]
theorem pv_25_7_5 (w : Int) : pv 25 7 5 w = w / 33554432 % 128 * 32 := by simp [pv]
theorem pv_8_4_1 (w : Int) : pv 8 4 1 w = w / 256 % 16 * 2 := by simp [pv]
theorem pv_25_6_5 (w : Int) : pv 25 6 5 w = w / 33554432 % 64 * 32 := by simp [pv]
theorem pv_7_1_11 (w : Int) : pv 7 1 11 w = w / 128 % 2 * 2048 := by simp [pv]
theorem pv_31_1_12 (w : Int) : pv 31 1 12 w = w / 2147483648 % 2 * 4096 := by simp [pv]
theorem pv_15_5_0 (w : Int) : pv 15 5 0 w = w / 32768 % 32 := by simp [pv]
/-- The numbers with which bits are asked for. -/
def Pt (l c a : Int) : Prop := (l = 25 ∧ c = 7 ∧ a = 0) ∨ (l = 12 ∧ c = 2 ∧ a = 0) ∨ (l = 0 ∧ c = 7 ∧ a = 0) ∨ (l = 12 ∧ c = 20 ∧ a = 0) ∨ (l = 12 ∧ c = 8 ∧ a = 12) ∨ (l = 20 ∧ c = 1 ∧ a = 11) ∨ (l = 21 ∧ c = 10 ∧ a = 1) ∨ (l = 31 ∧ c = 1 ∧ a = 20) ∨ (l = 20 ∧ c = 12 ∧ a = 0) ∨ (l = 20 ∧ c = 6 ∧ a = 0) ∨ (l = 20 ∧ c = 5 ∧ a = 0) ∨ (l = 7 ∧ c = 5 ∧ a = 0) ∨ (l = 25 ∧ c = 7 ∧ a = 5) ∨ (l = 8 ∧ c = 4 ∧ a = 1) ∨ (l = 25 ∧ c = 6 ∧ a = 5) ∨ (l = 7 ∧ c = 1 ∧ a = 11) ∨ (l = 31 ∧ c = 1 ∧ a = 12) ∨ (l = 15 ∧ c = 5 ∧ a = 0)

/-- A number of so many bits, with its sign. -/
def sg (b n : Int) : Int := if n < 2 ^ (b - 1).toNat then n else n - 2 ^ b.toNat
theorem sg_12 (n : Int) : sg 12 n = if n < 2048 then n else n - 4096 := rfl
theorem sg_13 (n : Int) : sg 13 n = if n < 4096 then n else n - 8192 := rfl
theorem sg_20 (n : Int) : sg 20 n = if n < 524288 then n else n - 1048576 := rfl
theorem sg_21 (n : Int) : sg 21 n = if n < 1048576 then n else n - 2097152 := rfl

/-- The bits of a number as a form has them in a word. -/
def raw (l w : Int) : Int :=
  if l = 85 then w / 4096 % 1048576
  else if l = 74 then w / 4096 % 256 * 4096 + w / 1048576 % 2 * 2048 + w / 2097152 % 1024 * 2 + w / 2147483648 % 2 * 1048576
  else if l = 73 ∨ l = 76 then w / 1048576 % 4096
  else if l = 72 then w / 1048576 % 64
  else if l = 87 then w / 1048576 % 32
  else if l = 83 then w / 128 % 32 + w / 33554432 % 128 * 32
  else if l = 66 then w / 256 % 16 * 2 + w / 33554432 % 64 * 32 + w / 128 % 2 * 2048 + w / 2147483648 % 2 * 4096
  else 0
/-- The number that a word of a form has. -/
def gth (l w : Int) : Int :=
  if l = 85 then sg 20 (raw l w) else if l = 74 then sg 21 (raw l w) else if l = 73 ∨ l = 76 ∨ l = 83 then sg 12 (raw l w) else if l = 66 then sg 13 (raw l w) else raw l w

theorem raw_J (w : Int) : bits .or .u32 (bits .or .u32 (bits .or .u32 (w / 4096 % 256 * 4096) (w / 1048576 % 2 * 2048)) (w / 2097152 % 1024 * 2)) (w / 2147483648 % 2 * 1048576) = raw 74 w := by
  show _ = w / 4096 % 256 * 4096 + w / 1048576 % 2 * 2048 + w / 2097152 % 1024 * 2 + w / 2147483648 % 2 * 1048576
  have c1 : 0 ≤ w / 4096 % 256 ∧ w / 4096 % 256 < 256 := by omega
  have c2 : 0 ≤ w / 1048576 % 2 ∧ w / 1048576 % 2 < 2 := by omega
  have c3 : 0 ≤ w / 2097152 % 1024 ∧ w / 2097152 % 1024 < 1024 := by omega
  have c4 : 0 ≤ w / 2147483648 % 2 ∧ w / 2147483648 % 2 < 2 := by omega
  generalize w / 4096 % 256 = x at *
  generalize w / 1048576 % 2 = y at *
  generalize w / 2097152 % 1024 = z at *
  generalize w / 2147483648 % 2 = t at *
  rw [or_hl 12 4096 (x * 4096) (y * 2048) rfl (by omega) (by omega) (by omega) (by omega) (by omega) (by omega), or_hl 11 2048 (x * 4096 + y * 2048) (z * 2) rfl (by omega) (by omega) (by omega) (by omega) (by omega) (by omega), or_lh 20 1048576 (x * 4096 + y * 2048 + z * 2) (t * 1048576) rfl (by omega) (by omega) (by omega) (by omega) (by omega) (by omega)]
theorem raw_S (w : Int) : bits .or .u32 (w / 128 % 32) (w / 33554432 % 128 * 32) = raw 83 w := by
  show _ = w / 128 % 32 + w / 33554432 % 128 * 32
  rw [or_lh 5 32 (w / 128 % 32) (w / 33554432 % 128 * 32) rfl (by omega) (by omega) (by omega) (by omega) (by omega) (by omega)]
theorem raw_B (w : Int) : bits .or .u32 (bits .or .u32 (bits .or .u32 (w / 256 % 16 * 2) (w / 33554432 % 64 * 32)) (w / 128 % 2 * 2048)) (w / 2147483648 % 2 * 4096) = raw 66 w := by
  show _ = w / 256 % 16 * 2 + w / 33554432 % 64 * 32 + w / 128 % 2 * 2048 + w / 2147483648 % 2 * 4096
  have c1 : 0 ≤ w / 256 % 16 ∧ w / 256 % 16 < 16 := by omega
  have c2 : 0 ≤ w / 33554432 % 64 ∧ w / 33554432 % 64 < 64 := by omega
  have c3 : 0 ≤ w / 128 % 2 ∧ w / 128 % 2 < 2 := by omega
  have c4 : 0 ≤ w / 2147483648 % 2 ∧ w / 2147483648 % 2 < 2 := by omega
  generalize w / 256 % 16 = x at *
  generalize w / 33554432 % 64 = y at *
  generalize w / 128 % 2 = z at *
  generalize w / 2147483648 % 2 = t at *
  rw [or_lh 5 32 (x * 2) (y * 32) rfl (by omega) (by omega) (by omega) (by omega) (by omega) (by omega), or_lh 11 2048 (x * 2 + y * 32) (z * 2048) rfl (by omega) (by omega) (by omega) (by omega) (by omega) (by omega), or_lh 12 4096 (x * 2 + y * 32 + z * 2048) (t * 4096) rfl (by omega) (by omega) (by omega) (by omega) (by omega) (by omega)]

/-- The first and the last operation that a word may be of. -/
def cF (w : Int) : Int := if w % 128 = 55 ∨ w % 128 = 23 then 1 else if w % 128 = 111 then 3 else if w % 128 = 103 then 4 else if w % 128 = 99 then 5 else if w % 128 = 3 then 11 else if w % 128 = 35 then 18
  else if w % 128 = 19 ∧ w / 4096 % 4 = 1 then 28 else if w % 128 = 19 then 22 else if w % 128 = 27 then 31 else if w % 128 = 51 ∧ w / 33554432 % 128 = 1 then 50 else if w % 128 = 51 then 35 else if w % 128 = 59 ∧ w / 33554432 % 128 = 1 then 58 else if w % 128 = 59 then 45 else 63
def cL (w : Int) : Int := if w % 128 = 55 ∨ w % 128 = 23 then 2 else if w % 128 = 111 then 3 else if w % 128 = 103 then 4 else if w % 128 = 99 then 10 else if w % 128 = 3 then 17 else if w % 128 = 35 then 21
  else if w % 128 = 19 ∧ w / 4096 % 4 = 1 then 30 else if w % 128 = 19 then 27 else if w % 128 = 27 then 34 else if w % 128 = 51 ∧ w / 33554432 % 128 = 1 then 57 else if w % 128 = 51 then 44 else if w % 128 = 59 ∧ w / 33554432 % 128 = 1 then 62 else if w % 128 = 59 then 49 else 65
theorem cF_pos (w : Int) : 1 ≤ cF w := by unfold cF; (repeat' split) <;> omega
theorem cL_le (w : Int) : cL w ≤ 65 := by unfold cL; (repeat' split) <;> omega
theorem cF_le (w : Int) : cF w ≤ cL w := by
  unfold cF cL
  by_cases a : w % 128 = 55 ∨ w % 128 = 23
  · rw [if_pos a, if_pos a]; decide
  rw [if_neg a, if_neg a]
  clear a
  by_cases a : w % 128 = 111
  · rw [if_pos a, if_pos a]; decide
  rw [if_neg a, if_neg a]
  clear a
  by_cases a : w % 128 = 103
  · rw [if_pos a, if_pos a]; decide
  rw [if_neg a, if_neg a]
  clear a
  by_cases a : w % 128 = 99
  · rw [if_pos a, if_pos a]; decide
  rw [if_neg a, if_neg a]
  clear a
  by_cases a : w % 128 = 3
  · rw [if_pos a, if_pos a]; decide
  rw [if_neg a, if_neg a]
  clear a
  by_cases a : w % 128 = 35
  · rw [if_pos a, if_pos a]; decide
  rw [if_neg a, if_neg a]
  clear a
  by_cases a : w % 128 = 19 ∧ w / 4096 % 4 = 1
  · rw [if_pos a, if_pos a]; decide
  rw [if_neg a, if_neg a]
  clear a
  by_cases a : w % 128 = 19
  · rw [if_pos a, if_pos a]; decide
  rw [if_neg a, if_neg a]
  clear a
  by_cases a : w % 128 = 27
  · rw [if_pos a, if_pos a]; decide
  rw [if_neg a, if_neg a]
  clear a
  by_cases a : w % 128 = 51 ∧ w / 33554432 % 128 = 1
  · rw [if_pos a, if_pos a]; decide
  rw [if_neg a, if_neg a]
  clear a
  by_cases a : w % 128 = 51
  · rw [if_pos a, if_pos a]; decide
  rw [if_neg a, if_neg a]
  clear a
  by_cases a : w % 128 = 59 ∧ w / 33554432 % 128 = 1
  · rw [if_pos a, if_pos a]; decide
  rw [if_neg a, if_neg a]
  clear a
  by_cases a : w % 128 = 59
  · rw [if_pos a, if_pos a]; decide
  rw [if_neg a, if_neg a]
  clear a
  decide
/-- Is a word one of an operation's? -/
def mt (op w : Int) : Bool := andM (nth plL op) w == nth fxL op
end Go.Proofs.YtndbkkldfinggaaDoor
