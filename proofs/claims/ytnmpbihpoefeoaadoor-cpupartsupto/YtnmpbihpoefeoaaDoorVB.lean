/- Operations of two numbers: the small ones. Operations of two numbers: quotients. Operations of two numbers: what each makes. Small rules on codes: where one ends, and with what. -/
import Derived.Test.YtnmpbihpoefeoaaDoorMA
namespace Go.Proofs.YtnmpbihpoefeoaaDoor
section
open Go.RowKit Go.Shelf
theorem wrapU (z : Int) : IntKind.u64.wrap z = z % 18446744073709551616 := by
  simp [IntKind.wrap, IntKind.signed, IntKind.bits]
theorem mask64 (k : Nat) (msk p a : Int) (hp : p = ((2 ^ k : Nat) : Int)) (hm : msk = p - 1) (hk : k ≤ 64) (h0 : 0 ≤ a) (h1 : a < 18446744073709551616) : bits .and .u64 a msk = a % p := by
  have e2 : 0 < 2 ^ k := Nat.two_pow_pos k
  have e3 : 2 ^ k ≤ 2 ^ 64 := Nat.pow_le_pow_right (by omega) hk
  subst hm
  rw [u64_and a (p - 1) h0 (by omega) (by omega) (by omega)]
  have e : (p - 1).toNat = 2 ^ k - 1 := by omega
  rw [e, Nat.and_two_pow_sub_one_eq_mod, Int.natCast_emod, Int.toNat_of_nonneg h0, hp]
theorem lo32 {a : Int} (h0 : 0 ≤ a) (h1 : a < 18446744073709551616) : bits .and .u64 a 4294967295 = a % 4294967296 := mask64 32 _ _ a rfl rfl (by omega) h0 h1
theorem lo6 {a : Int} (h0 : 0 ≤ a) (h1 : a < 18446744073709551616) : bits .and .u64 a 63 = a % 64 := mask64 6 _ _ a rfl rfl (by omega) h0 h1
theorem lo5 {a : Int} (h0 : 0 ≤ a) (h1 : a < 18446744073709551616) : bits .and .u64 a 31 = a % 32 := mask64 5 _ _ a rfl rfl (by omega) h0 h1
/-- The lowest 32 bits, with their sign. -/
def s32 (v : Int) : Int := (wrap32 v) % 18446744073709551616
theorem signed21 (v : Int) (w : World) : Calls Tryd.prog 21 #[.int .u64 v] w fun e w' => e = .returned (.int .u64 (s32 v)) ∧ w' = w := by
  have hs : IntKind.u64.wrap (wrap32 v) = s32 v := wrapU _
  go_enter Tryd.func21, Tryd.ntmps21
  go_wp2
  go_ret
  exact ⟨ret_int hs, rfl⟩
theorem unsigned34 (v : Int) (w : World) : Calls Tryd.prog 34 #[.int .u64 v] w fun e w' => e = .returned (.int .u64 (v % 4294967296)) ∧ w' = w := by
  go_enter Tryd.func34, Tryd.ntmps34
  go_wp2
  go_ret
  exact ⟨rfl, rfl⟩
theorem truth35 (v : Bool) (w : World) : Calls Tryd.prog 35 #[.bool v] w fun e w' => e = .returned (.int .u64 (if v then 1 else 0)) ∧ w' = w := by
  cases v
  · go_enter Tryd.func35, Tryd.ntmps35
    go_wp2
    go_ret
    exact ⟨rfl, rfl⟩
  · go_enter Tryd.func35, Tryd.ntmps35
    go_wp2
    go_ret
    exact ⟨rfl, rfl⟩
theorem truth38 (v : Bool) (w : World) : Calls Tryd.prog 38 #[.bool v] w fun e w' => e = .returned (.int .u64 (if v then 1 else 0)) ∧ w' = w := by
  cases v
  · go_enter Tryd.func38, Tryd.ntmps38
    go_wp2
    go_ret
    exact ⟨rfl, rfl⟩
  · go_enter Tryd.func38, Tryd.ntmps38
    go_wp2
    go_ret
    exact ⟨rfl, rfl⟩
/-- What a product's highest bits have too much. -/
def neg (a b : Int) : Int := if wrap64 a < 0 then b else 0
theorem negative49 (a b : Int) (w : World) : Calls Tryd.prog 49 #[.int .u64 a, .int .u64 b] w fun e w' => e = .returned (.int .u64 (neg a b)) ∧ w' = w := by
  unfold neg
  by_cases h : wrap64 a < 0
  · rw [if_pos h]
    go_enter Tryd.func49, Tryd.ntmps49
    go_wp2
    go_ret
    exact ⟨rfl, rfl⟩
  · rw [if_neg h]
    go_enter Tryd.func49, Tryd.ntmps49
    go_wp2
    go_ret
    exact ⟨rfl, rfl⟩
theorem mul_lt {x y : Int} (x0 : 0 ≤ x) (x1 : x < 4294967296) (y0 : 0 ≤ y) (y1 : y < 4294967296) : 0 ≤ x * y ∧ x * y ≤ 18446744065119617025 := by
  refine ⟨Int.mul_nonneg x0 y0, ?_⟩
  have t : x * y ≤ 4294967295 * 4294967295 := Int.mul_le_mul (by omega) (by omega) y0 (by omega)
  exact t
theorem hi_sum (p q r s : Int) : s + (q + p / 4294967296) / 4294967296 + ((q + p / 4294967296) % 4294967296 + r) / 4294967296 = (s * 18446744073709551616 + (q + r) * 4294967296 + p) / 18446744073709551616 := by omega
theorem hi_all (a b : Int) : (a / 4294967296) * (b / 4294967296) * 18446744073709551616 + ((a / 4294967296) * (b % 4294967296) + (a % 4294967296) * (b / 4294967296)) * 4294967296 + (a % 4294967296) * (b % 4294967296) = a * b := by
  have ea : a = 4294967296 * (a / 4294967296) + a % 4294967296 := by omega
  have eb : b = 4294967296 * (b / 4294967296) + b % 4294967296 := by omega
  generalize a / 4294967296 = x at *
  generalize a % 4294967296 = y at *
  generalize b / 4294967296 = u at *
  generalize b % 4294967296 = v at *
  subst ea eb
  have : (18446744073709551616 : Int) = 4294967296 * 4294967296 := rfl
  rw [this]
  simp only [Int.add_mul, Int.mul_add, Int.mul_assoc, Int.mul_left_comm, Int.mul_comm]
  omega
theorem ret_pair {k l : IntKind} {a b c d : Int} (h : a = c) (g : b = d) : Ending.returned (.tuple #[.int k a, .int l b]) = .returned (.tuple #[.int k c, .int l d]) := by rw [h, g]
set_option maxHeartbeats 1000000 in
theorem mul65 (a b : Int) (a0 : 0 ≤ a) (a1 : a < 18446744073709551616) (b0 : 0 ≤ b) (b1 : b < 18446744073709551616) (w : World) : Calls Tryd.prog 65 #[.int .u64 a, .int .u64 b] w fun e w' => e = .returned (.tuple #[.int .u64 (a * b / 18446744073709551616), .int .u64 (IntKind.u64.wrap (a * b))]) ∧ w' = w := by
  have hA : bits .and .u64 a 4294967295 = a % 4294967296 := lo32 a0 a1
  have hB : bits .and .u64 b 4294967295 = b % 4294967296 := lo32 b0 b1
  have X := hi_all a b
  have P := mul_lt (x := a % 4294967296) (y := b % 4294967296) (by omega) (by omega) (by omega) (by omega)
  have Q := mul_lt (x := a / 4294967296) (y := b % 4294967296) (by omega) (by omega) (by omega) (by omega)
  have R := mul_lt (x := a % 4294967296) (y := b / 4294967296) (by omega) (by omega) (by omega) (by omega)
  have S := mul_lt (x := a / 4294967296) (y := b / 4294967296) (by omega) (by omega) (by omega) (by omega)
  generalize hx0 : a % 4294967296 = x0 at *
  generalize hx1 : a / 4294967296 = x1 at *
  generalize hy0 : b % 4294967296 = y0 at *
  generalize hy1 : b / 4294967296 = y1 at *
  generalize hp : x0 * y0 = p at *
  generalize hq : x1 * y0 = q at *
  generalize hr : x0 * y1 = r at *
  generalize hs : x1 * y1 = s at *
  have T : bits .and .u64 (q + p / 4294967296) 4294967295 = (q + p / 4294967296) % 4294967296 := lo32 (by omega) (by omega)
  have HX : Hid (s * 18446744073709551616 + (q + r) * 4294967296 + p = a * b) := X
  clear X
  go_enter Tryd.func65, Tryd.ntmps65
  go_wp2
  go_ret2
  exact ⟨ret_pair (by rw [hi_sum, HX.out]) rfl, rfl⟩
set_option maxHeartbeats 1000000 in
theorem high39 (a b : Int) (a0 : 0 ≤ a) (a1 : a < 18446744073709551616) (b0 : 0 ≤ b) (b1 : b < 18446744073709551616) (w : World) : Calls Tryd.prog 39 #[.int .u64 a, .int .u64 b] w fun e w' => e = .returned (.int .u64 (a * b / 18446744073709551616)) ∧ w' = w := by
  have hA : bits .and .u64 a 4294967295 = a % 4294967296 := lo32 a0 a1
  have hB : bits .and .u64 b 4294967295 = b % 4294967296 := lo32 b0 b1
  have X := hi_all a b
  have P := mul_lt (x := a % 4294967296) (y := b % 4294967296) (by omega) (by omega) (by omega) (by omega)
  have Q := mul_lt (x := a / 4294967296) (y := b % 4294967296) (by omega) (by omega) (by omega) (by omega)
  have R := mul_lt (x := a % 4294967296) (y := b / 4294967296) (by omega) (by omega) (by omega) (by omega)
  have S := mul_lt (x := a / 4294967296) (y := b / 4294967296) (by omega) (by omega) (by omega) (by omega)
  generalize hx0 : a % 4294967296 = x0 at *
  generalize hx1 : a / 4294967296 = x1 at *
  generalize hy0 : b % 4294967296 = y0 at *
  generalize hy1 : b / 4294967296 = y1 at *
  generalize hp : x0 * y0 = p at *
  generalize hq : x1 * y0 = q at *
  generalize hr : x0 * y1 = r at *
  generalize hs : x1 * y1 = s at *
  have T : bits .and .u64 (q + p / 4294967296) 4294967295 = (q + p / 4294967296) % 4294967296 := lo32 (by omega) (by omega)
  have HX : Hid (s * 18446744073709551616 + (q + r) * 4294967296 + p = a * b) := X
  clear X
  go_enter Tryd.func39, Tryd.ntmps39
  go_wp2
  go_ret
  exact ⟨ret_int (by rw [hi_sum, HX.out]), rfl⟩
theorem high48 (a b : Int) (a0 : 0 ≤ a) (a1 : a < 18446744073709551616) (b0 : 0 ≤ b) (b1 : b < 18446744073709551616) (w : World) : Calls Tryd.prog 48 #[.int .u64 a, .int .u64 b] w fun e w' => e = .returned (.int .u64 (a * b / 18446744073709551616)) ∧ w' = w := by
  go_enter Tryd.func48, Tryd.ntmps48
  go_wp2_with ((go_at_call 65; refine (mul65 a b a0 a1 b0 b1 _).mono ?_; rintro e w' ⟨rfl, rfl⟩))
  go_ret
  exact ⟨rfl, rfl⟩
theorem or_top {v : Int} (v0 : 0 ≤ v) (v1 : v < 4294967296) : bits .or .u64 v 18446744069414584320 = v + 18446744069414584320 := by
  rw [u64_or v 18446744069414584320 v0 (by omega) (by omega) (by omega)]
  have e : (18446744069414584320 : Int).toNat = 2 ^ 32 * 4294967295 := rfl
  rw [e, Nat.or_comm, ← Nat.two_pow_add_eq_or_of_lt (by omega)]
  omega
theorem s32_lo (v : Int) (v0 : 0 ≤ v) (v1 : v < 2147483648) : s32 v = v := by unfold s32 wrap32; omega
theorem s32_hi (v : Int) (v0 : 2147483648 ≤ v) (v1 : v < 4294967296) : s32 v = v + 18446744069414584320 := by unfold s32 wrap32; omega
theorem s32_mod (v : Int) : s32 (v % 4294967296) = s32 v := by unfold s32 wrap32; omega
set_option maxHeartbeats 1000000 in
theorem sign37 (v : Int) (a0 : 0 ≤ v) (a1 : v < 4294967296) (w : World) : Calls Tryd.prog 37 #[.int .u64 v, .int .u64 32] w fun e w' => e = .returned (.int .u64 (s32 v)) ∧ w' = w := by
  by_cases h : v < 2147483648
  · have e : bits .and .u64 (v / 2147483648) 1 = 0 := by rw [show v / 2147483648 = 0 by omega]; rfl
    go_enter Tryd.func37, Tryd.ntmps37
    go_wp2
    go_ret
    exact ⟨ret_int (s32_lo v a0 h).symm, rfl⟩
  · have e : bits .and .u64 (v / 2147483648) 1 = 1 := by rw [show v / 2147483648 = 1 by omega]; rfl
    have e2 : IntKind.u64.wrap 79228162514264337589248983040 = 18446744069414584320 := by rw [wrapU]; rfl
    have e3 := or_top a0 a1
    go_enter Tryd.func37, Tryd.ntmps37
    go_wp2
    go_ret
    exact ⟨ret_int (s32_hi v (by omega) a1).symm, rfl⟩
end
section
open Go.RowKit Go.Shelf
theorem w64_zero {b : Int} (b0 : 0 ≤ b) (b1 : b < 18446744073709551616) (h : ¬ b = 0) : ¬ wrap64 b = 0 := by unfold wrap64; omega
def dv (a b : Int) : Int := if b = 0 then 18446744073709551615 else IntKind.u64.wrap (wrap64 ((wrap64 a).tdiv (wrap64 b)))
def rm (a b : Int) : Int := if b = 0 then a else IntKind.u64.wrap ((wrap64 a).tmod (wrap64 b))
def dvu (a b : Int) : Int := if b = 0 then 18446744073709551615 else a / b
def rmu (a b : Int) : Int := if b = 0 then a else a % b
/-- A truth as a number. -/
def tr (v : Bool) : Int := if v then 1 else 0
theorem truth35' (v : Bool) (w : World) : Calls Tryd.prog 35 #[.bool v] w fun e w' => e = .returned (.int .u64 (tr v)) ∧ w' = w := truth35 v w
theorem truth38' (v : Bool) (w : World) : Calls Tryd.prog 38 #[.bool v] w fun e w' => e = .returned (.int .u64 (tr v)) ∧ w' = w := truth38 v w
theorem quot50 (a b : Int) (b0 : 0 ≤ b) (b1 : b < 18446744073709551616) (w : World) : Calls Tryd.prog 50 #[.int .u64 a, .int .u64 b] w fun e w' => e = .returned (.tuple #[.int .u64 (dv a b), .int .u64 (rm a b)]) ∧ ∃ n, w' = w.drewN n := by
  by_cases h : b = 0
  · subst h
    go_enter Tryd.func50, Tryd.ntmps50
    go_wp2
    go_ret2
    exact ⟨rfl, 0, rfl⟩
  · have hz := w64_zero b0 b1 h
    unfold dv rm
    rw [if_neg h, if_neg h]
    go_enter Tryd.func50, Tryd.ntmps50
    go_wp2
    go_region
    all_goals go_wp2
    all_goals go_ret2
    all_goals exact ⟨rfl, 1, rfl⟩
theorem quot51 (a b : Int) (a0 : 0 ≤ a) (a1 : a < 18446744073709551616) (b0 : 0 ≤ b) (_b1 : b < 18446744073709551616) (w : World) : Calls Tryd.prog 51 #[.int .u64 a, .int .u64 b] w fun e w' => e = .returned (.tuple #[.int .u64 (dvu a b), .int .u64 (rmu a b)]) ∧ ∃ n, w' = w.drewN n := by
  by_cases h : b = 0
  · subst h
    go_enter Tryd.func51, Tryd.ntmps51
    go_wp2
    go_ret2
    exact ⟨rfl, 0, rfl⟩
  · unfold dvu rmu
    rw [if_neg h, if_neg h]
    go_enter Tryd.func51, Tryd.ntmps51
    go_wp2
    go_region
    all_goals go_wp2
    all_goals go_ret2
    all_goals exact ⟨rfl, 1, rfl⟩
theorem dv_neg (a b : Int) (h : ¬ b = 0) (h1 : wrap64 b = -1) : IntKind.u64.wrap (-a) = dv a b := by
  unfold dv
  rw [if_neg h, h1, wrapU, wrapU, show (-1 : Int) = -(1 : Int) from rfl, Int.tdiv_neg, Int.tdiv_one]
  unfold wrap64
  omega
theorem rm_neg (a b : Int) (h : ¬ b = 0) (h1 : wrap64 b = -1) : 0 = rm a b := by
  unfold rm
  rw [if_neg h, h1, wrapU, show (-1 : Int) = -(1 : Int) from rfl, Int.tmod_neg, Int.tmod_one]
  rfl
/-- What divide makes. -/
def D (op a b : Int) : Int := if op = 54 then dv a b else if op = 55 then dvu a b else if op = 56 then rm a b else rmu a b
set_option maxHeartbeats 1000000 in
theorem div40_54 (a b : Int) (b0 : 0 ≤ b) (b1 : b < 18446744073709551616) (w : World) : Calls Tryd.prog 40 #[.int .i64 54, .int .u64 a, .int .u64 b] w fun e w' => e = .returned (.int .u64 (dv a b)) ∧ w' = w := by
  by_cases h : b = 0
  · subst h
    go_enter Tryd.func40, Tryd.ntmps40
    go_wp2
    go_ret
    exact ⟨rfl, rfl⟩
  · have hz := w64_zero b0 b1 h
    by_cases h1 : wrap64 b = -1
    · go_enter Tryd.func40, Tryd.ntmps40
      go_wp2
      go_ret
      exact ⟨ret_int (dv_neg a b h h1), rfl⟩
    · go_enter Tryd.func40, Tryd.ntmps40
      go_wp2
      go_ret
      exact ⟨ret_int (by unfold dv; rw [if_neg h]), rfl⟩
set_option maxHeartbeats 1000000 in
theorem div40_56 (a b : Int) (b0 : 0 ≤ b) (b1 : b < 18446744073709551616) (w : World) : Calls Tryd.prog 40 #[.int .i64 56, .int .u64 a, .int .u64 b] w fun e w' => e = .returned (.int .u64 (rm a b)) ∧ w' = w := by
  by_cases h : b = 0
  · subst h
    go_enter Tryd.func40, Tryd.ntmps40
    go_wp2
    go_ret
    exact ⟨rfl, rfl⟩
  · have hz := w64_zero b0 b1 h
    by_cases h1 : wrap64 b = -1
    · go_enter Tryd.func40, Tryd.ntmps40
      go_wp2
      go_ret
      exact ⟨ret_int (rm_neg a b h h1), rfl⟩
    · go_enter Tryd.func40, Tryd.ntmps40
      go_wp2
      go_ret
      exact ⟨ret_int (by unfold rm; rw [if_neg h]), rfl⟩
set_option maxHeartbeats 1000000 in
theorem div40_55 (a b : Int) (a0 : 0 ≤ a) (a1 : a < 18446744073709551616) (b0 : 0 ≤ b) (_b1 : b < 18446744073709551616) (w : World) : Calls Tryd.prog 40 #[.int .i64 55, .int .u64 a, .int .u64 b] w fun e w' => e = .returned (.int .u64 (dvu a b)) ∧ w' = w := by
  by_cases h : b = 0
  · subst h
    go_enter Tryd.func40, Tryd.ntmps40
    go_wp2
    go_ret
    exact ⟨rfl, rfl⟩
  · go_enter Tryd.func40, Tryd.ntmps40
    go_wp2
    go_ret
    exact ⟨ret_int (by unfold dvu; rw [if_neg h]), rfl⟩
set_option maxHeartbeats 1000000 in
theorem div40_57 (a b : Int) (a0 : 0 ≤ a) (a1 : a < 18446744073709551616) (b0 : 0 ≤ b) (_b1 : b < 18446744073709551616) (w : World) : Calls Tryd.prog 40 #[.int .i64 57, .int .u64 a, .int .u64 b] w fun e w' => e = .returned (.int .u64 (rmu a b)) ∧ w' = w := by
  by_cases h : b = 0
  · subst h
    go_enter Tryd.func40, Tryd.ntmps40
    go_wp2
    go_ret
    exact ⟨rfl, rfl⟩
  · go_enter Tryd.func40, Tryd.ntmps40
    go_wp2
    go_ret
    exact ⟨ret_int (by unfold rmu; rw [if_neg h]), rfl⟩
theorem div40 (op a b : Int) (h1 : 54 ≤ op) (h2 : op ≤ 57) (a0 : 0 ≤ a) (a1 : a < 18446744073709551616) (b0 : 0 ≤ b) (b1 : b < 18446744073709551616) (w : World) : Calls Tryd.prog 40 #[.int .i64 op, .int .u64 a, .int .u64 b] w fun e w' => e = .returned (.int .u64 (D op a b)) ∧ w' = w := by
  rcases (by omega : op = 54 ∨ op = 55 ∨ op = 56 ∨ op = 57) with rfl | rfl | rfl | rfl
  · exact div40_54 a b b0 b1 w
  · exact div40_55 a b a0 a1 b0 b1 w
  · exact div40_56 a b b0 b1 w
  · exact div40_57 a b a0 a1 b0 b1 w
end
section
open Go.RowKit Go.Shelf
theorem s32_range (v : Int) : 0 ≤ s32 v ∧ s32 v < 18446744073709551616 := by unfold s32 wrap32; omega
theorem lo_range (v : Int) : 0 ≤ v % 4294967296 ∧ v % 4294967296 < 18446744073709551616 := by omega
/-- The highest 64 bits of a product. -/
def hi (a b : Int) : Int := a * b / 18446744073709551616
/-- An operation of 64 bits. -/
def A64 (op a b : Int) : Int :=
  if op = 35 then IntKind.u64.wrap (a + b) else if op = 36 then IntKind.u64.wrap (a - b) else if op = 37 then IntKind.u64.wrap (a * 2 ^ (b % 64).toNat) else if op = 38 then tr (decide (wrap64 a < wrap64 b)) else if op = 39 then tr (decide (a < b))
  else if op = 40 then bits .xor .u64 a b else if op = 41 then a / 2 ^ (b % 64).toNat else if op = 42 then IntKind.u64.wrap (wrap64 a / 2 ^ (b % 64).toNat) else if op = 43 then bits .or .u64 a b else if op = 44 then bits .and .u64 a b
  else if op = 50 then IntKind.u64.wrap (a * b) else if op = 51 then IntKind.u64.wrap (IntKind.u64.wrap (hi a b - neg a b) - neg b a) else if op = 52 then IntKind.u64.wrap (hi a b - neg a b) else if op = 53 then hi a b
  else D op a b
/-- The operation of 64 bits that one of 32 bits, or with a number, comes from. -/
def wOf (op : Int) : Int :=
  if op = 22 then 35 else if op = 23 then 38 else if op = 24 then 39 else if op = 25 then 40 else if op = 26 then 43 else if op = 27 then 44 else if op = 28 then 37 else if op = 29 then 41 else if op = 30 then 42
  else if op = 31 then 35 else if op = 32 then 37 else if op = 33 then 41 else if op = 34 then 42 else if op = 45 then 35 else if op = 46 then 36 else if op = 47 then 37 else if op = 48 then 41 else if op = 49 then 42
  else if op = 58 then 50 else if op = 59 then 54 else if op = 60 then 55 else if op = 61 then 56 else if op = 62 then 57 else op
/-- Is it of 32 bits? -/
def isN32 (op : Int) : Bool := (decide (31 ≤ op) && decide (op ≤ 34)) || ((decide (45 ≤ op) && decide (op ≤ 49)) || (decide (58 ≤ op) && decide (op ≤ 62)))
/-- What the program makes ahead of the last cut to 32 bits. -/
def Pv (op a b : Int) : Int :=
  if op = 32 ∨ op = 47 then A64 37 a (b % 32) else if op = 33 ∨ op = 48 then A64 41 (a % 4294967296) (b % 32) else if op = 34 ∨ op = 49 then A64 42 (s32 a) (b % 32)
  else if op = 59 then A64 54 (s32 a) (s32 b) else if op = 60 then A64 55 (a % 4294967296) (b % 4294967296) else if op = 61 then A64 56 (s32 a) (s32 b) else if op = 62 then A64 57 (a % 4294967296) (b % 4294967296)
  else A64 (wOf op) a b
theorem Pv_22 (a b : Int) : Pv 22 a b = IntKind.u64.wrap (a + b) := rfl
theorem N_22 : isN32 22 = false := rfl
theorem Pv_23 (a b : Int) : Pv 23 a b = tr (decide (wrap64 a < wrap64 b)) := rfl
theorem N_23 : isN32 23 = false := rfl
theorem Pv_24 (a b : Int) : Pv 24 a b = tr (decide (a < b)) := rfl
theorem N_24 : isN32 24 = false := rfl
theorem Pv_25 (a b : Int) : Pv 25 a b = bits .xor .u64 a b := rfl
theorem N_25 : isN32 25 = false := rfl
theorem Pv_26 (a b : Int) : Pv 26 a b = bits .or .u64 a b := rfl
theorem N_26 : isN32 26 = false := rfl
theorem Pv_27 (a b : Int) : Pv 27 a b = bits .and .u64 a b := rfl
theorem N_27 : isN32 27 = false := rfl
theorem Pv_28 (a b : Int) : Pv 28 a b = IntKind.u64.wrap (a * 2 ^ (b % 64).toNat) := rfl
theorem N_28 : isN32 28 = false := rfl
theorem Pv_29 (a b : Int) : Pv 29 a b = a / 2 ^ (b % 64).toNat := rfl
theorem N_29 : isN32 29 = false := rfl
theorem Pv_30 (a b : Int) : Pv 30 a b = IntKind.u64.wrap (wrap64 a / 2 ^ (b % 64).toNat) := rfl
theorem N_30 : isN32 30 = false := rfl
theorem Pv_31 (a b : Int) : Pv 31 a b = IntKind.u64.wrap (a + b) := rfl
theorem N_31 : isN32 31 = true := rfl
theorem Pv_32 (a b : Int) : Pv 32 a b = IntKind.u64.wrap (a * 2 ^ (b % 32 % 64).toNat) := rfl
theorem N_32 : isN32 32 = true := rfl
theorem Pv_33 (a b : Int) : Pv 33 a b = a % 4294967296 / 2 ^ (b % 32 % 64).toNat := rfl
theorem N_33 : isN32 33 = true := rfl
theorem Pv_34 (a b : Int) : Pv 34 a b = IntKind.u64.wrap (wrap64 (s32 a) / 2 ^ (b % 32 % 64).toNat) := rfl
theorem N_34 : isN32 34 = true := rfl
theorem Pv_35 (a b : Int) : Pv 35 a b = IntKind.u64.wrap (a + b) := rfl
theorem N_35 : isN32 35 = false := rfl
theorem Pv_36 (a b : Int) : Pv 36 a b = IntKind.u64.wrap (a - b) := rfl
theorem N_36 : isN32 36 = false := rfl
theorem Pv_37 (a b : Int) : Pv 37 a b = IntKind.u64.wrap (a * 2 ^ (b % 64).toNat) := rfl
theorem N_37 : isN32 37 = false := rfl
theorem Pv_38 (a b : Int) : Pv 38 a b = tr (decide (wrap64 a < wrap64 b)) := rfl
theorem N_38 : isN32 38 = false := rfl
theorem Pv_39 (a b : Int) : Pv 39 a b = tr (decide (a < b)) := rfl
theorem N_39 : isN32 39 = false := rfl
theorem Pv_40 (a b : Int) : Pv 40 a b = bits .xor .u64 a b := rfl
theorem N_40 : isN32 40 = false := rfl
theorem Pv_41 (a b : Int) : Pv 41 a b = a / 2 ^ (b % 64).toNat := rfl
theorem N_41 : isN32 41 = false := rfl
theorem Pv_42 (a b : Int) : Pv 42 a b = IntKind.u64.wrap (wrap64 a / 2 ^ (b % 64).toNat) := rfl
theorem N_42 : isN32 42 = false := rfl
theorem Pv_43 (a b : Int) : Pv 43 a b = bits .or .u64 a b := rfl
theorem N_43 : isN32 43 = false := rfl
theorem Pv_44 (a b : Int) : Pv 44 a b = bits .and .u64 a b := rfl
theorem N_44 : isN32 44 = false := rfl
theorem Pv_45 (a b : Int) : Pv 45 a b = IntKind.u64.wrap (a + b) := rfl
theorem N_45 : isN32 45 = true := rfl
theorem Pv_46 (a b : Int) : Pv 46 a b = IntKind.u64.wrap (a - b) := rfl
theorem N_46 : isN32 46 = true := rfl
theorem Pv_47 (a b : Int) : Pv 47 a b = IntKind.u64.wrap (a * 2 ^ (b % 32 % 64).toNat) := rfl
theorem N_47 : isN32 47 = true := rfl
theorem Pv_48 (a b : Int) : Pv 48 a b = a % 4294967296 / 2 ^ (b % 32 % 64).toNat := rfl
theorem N_48 : isN32 48 = true := rfl
theorem Pv_49 (a b : Int) : Pv 49 a b = IntKind.u64.wrap (wrap64 (s32 a) / 2 ^ (b % 32 % 64).toNat) := rfl
theorem N_49 : isN32 49 = true := rfl
theorem Pv_50 (a b : Int) : Pv 50 a b = IntKind.u64.wrap (a * b) := rfl
theorem N_50 : isN32 50 = false := rfl
theorem Pv_51 (a b : Int) : Pv 51 a b = IntKind.u64.wrap (IntKind.u64.wrap (hi a b - neg a b) - neg b a) := rfl
theorem N_51 : isN32 51 = false := rfl
theorem Pv_52 (a b : Int) : Pv 52 a b = IntKind.u64.wrap (hi a b - neg a b) := rfl
theorem N_52 : isN32 52 = false := rfl
theorem Pv_53 (a b : Int) : Pv 53 a b = hi a b := rfl
theorem N_53 : isN32 53 = false := rfl
theorem Pv_54 (a b : Int) : Pv 54 a b = dv a b := rfl
theorem N_54 : isN32 54 = false := rfl
theorem Pv_55 (a b : Int) : Pv 55 a b = dvu a b := rfl
theorem N_55 : isN32 55 = false := rfl
theorem Pv_56 (a b : Int) : Pv 56 a b = rm a b := rfl
theorem N_56 : isN32 56 = false := rfl
theorem Pv_57 (a b : Int) : Pv 57 a b = rmu a b := rfl
theorem N_57 : isN32 57 = false := rfl
theorem Pv_58 (a b : Int) : Pv 58 a b = IntKind.u64.wrap (a * b) := rfl
theorem N_58 : isN32 58 = true := rfl
theorem Pv_59 (a b : Int) : Pv 59 a b = dv (s32 a) (s32 b) := rfl
theorem N_59 : isN32 59 = true := rfl
theorem Pv_60 (a b : Int) : Pv 60 a b = dvu (a % 4294967296) (b % 4294967296) := rfl
theorem N_60 : isN32 60 = true := rfl
theorem Pv_61 (a b : Int) : Pv 61 a b = rm (s32 a) (s32 b) := rfl
theorem N_61 : isN32 61 = true := rfl
theorem Pv_62 (a b : Int) : Pv 62 a b = rmu (a % 4294967296) (b % 4294967296) := rfl
theorem N_62 : isN32 62 = true := rfl
theorem A_35 (a b : Int) : A64 35 a b = IntKind.u64.wrap (a + b) := rfl
theorem A_36 (a b : Int) : A64 36 a b = IntKind.u64.wrap (a - b) := rfl
theorem A_37 (a b : Int) : A64 37 a b = IntKind.u64.wrap (a * 2 ^ (b % 64).toNat) := rfl
theorem A_38 (a b : Int) : A64 38 a b = tr (decide (wrap64 a < wrap64 b)) := rfl
theorem A_39 (a b : Int) : A64 39 a b = tr (decide (a < b)) := rfl
theorem A_40 (a b : Int) : A64 40 a b = bits .xor .u64 a b := rfl
theorem A_41 (a b : Int) : A64 41 a b = a / 2 ^ (b % 64).toNat := rfl
theorem A_42 (a b : Int) : A64 42 a b = IntKind.u64.wrap (wrap64 a / 2 ^ (b % 64).toNat) := rfl
theorem A_43 (a b : Int) : A64 43 a b = bits .or .u64 a b := rfl
theorem A_44 (a b : Int) : A64 44 a b = bits .and .u64 a b := rfl
theorem A_50 (a b : Int) : A64 50 a b = IntKind.u64.wrap (a * b) := rfl
theorem A_51 (a b : Int) : A64 51 a b = IntKind.u64.wrap (IntKind.u64.wrap (hi a b - neg a b) - neg b a) := rfl
theorem A_52 (a b : Int) : A64 52 a b = IntKind.u64.wrap (hi a b - neg a b) := rfl
theorem A_53 (a b : Int) : A64 53 a b = hi a b := rfl
theorem beq_no {k : Int} (h : (k == k) = false) : False := by simp at h
theorem ret_pb {k : IntKind} {a c : Int} {b d : Bool} (h : a = c) (g : b = d) : Ending.returned (.tuple #[.int k a, .bool b]) = .returned (.tuple #[.int k c, .bool d]) := by rw [h, g]
end
section
open Go.RowKit Go.Shelf
def At (e : Exit) (A : Act) (W : World) : Exit → Act → World → Prop := fun e' a' w' => e' = e ∧ a' = A ∧ w' = W
theorem At.mk {e : Exit} {A : Act} {W : World} : At e A W e A W := ⟨rfl, rfl, rfl⟩
theorem seq_to {P : Program} {x y : Code} {Q : Exit → Act → World → Prop} {a A : Act} {w W : World} (h : x.wp P (At .normal A W) a w) (k : y.wp P Q A W) : (Code.seq x y).wp P Q a w :=
  wp_seq (wp_mono h fun _ _ _ q => by obtain ⟨rfl, rfl, rfl⟩ := q; exact k)
theorem seq_exit {P : Program} {x y : Code} {n : Nat} {a A : Act} {w W : World} (h : x.wp P (At (.exit n) A W) a w) : (Code.seq x y).wp P (At (.exit n) A W) a w :=
  wp_seq (wp_mono h fun _ _ _ q => by obtain ⟨rfl, rfl, rfl⟩ := q; exact At.mk)
theorem blk_catch {P : Program} {c : Code} {n : Nat} {a A : Act} {w W : World} (h : c.wp P (At (.exit n) A W) a w) : (Code.block n c).wp P (At .normal A W) a w :=
  wp_block (wp_mono h fun _ _ _ q => by obtain ⟨rfl, rfl, rfl⟩ := q; simp only [Exit.inBlock, if_true]; exact At.mk)
theorem blk_pass {P : Program} {c : Code} {j n : Nat} {a A : Act} {w W : World} (hn : n ≠ j) (h : c.wp P (At (.exit n) A W) a w) : (Code.block j c).wp P (At (.exit n) A W) a w :=
  wp_block (wp_mono h fun _ _ _ q => by obtain ⟨rfl, rfl, rfl⟩ := q; simp only [Exit.inBlock, hn, if_false]; exact At.mk)
theorem blk_norm {P : Program} {c : Code} {j : Nat} {a A : Act} {w W : World} (h : c.wp P (At .normal A W) a w) : (Code.block j c).wp P (At .normal A W) a w :=
  wp_block (wp_mono h fun _ _ _ q => by obtain ⟨rfl, rfl, rfl⟩ := q; exact At.mk)
end
end Go.Proofs.YtnmpbihpoefeoaaDoor
