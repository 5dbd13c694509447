/- Operations of two numbers: the small ones. -/
import Derived.Test.YtnmpbihpoefeoaaDoorMA
namespace Go.Proofs.YtnmpbihpoefeoaaDoor
open Go.RowKit Go.Shelf
theorem wrapU (z : Int) : IntKind.u64.wrap z = z % 18446744073709551616 := by
  simp [IntKind.wrap, IntKind.signed, IntKind.bits]
theorem mask64 (k : Nat) (msk p a : Int) (hp : p = ((2 ^ k : Nat) : Int)) (hm : msk = p - 1) (hk : k ≤ 64) (h0 : 0 ≤ a) (h1 : a < 18446744073709551616) : bits .and .u64 a msk = a % p := by
  have e2 : 0 < 2 ^ k := Nat.two_pow_pos k
  have e3 : 2 ^ k ≤ 2 ^ 64 := Nat.pow_le_pow_right (by omega) hk
  subst hm
  rw [u64_and a (p - 1) h0 (by omega) (by omega) (by omega)]
  have e : (p - 1).toNat = 2 ^ k - 1 := by omega
  rw [e, Nat.and_two_pow_sub_one_eq_mod, Int.natCast_emod, Int.toNat_of_nonneg h0, hp]
theorem lo32 {a : Int} (h0 : 0 ≤ a) (h1 : a < 18446744073709551616) : bits .and .u64 a 4294967295 = a % 4294967296 := mask64 32 _ _ a rfl rfl (by omega) h0 h1
theorem lo6 {a : Int} (h0 : 0 ≤ a) (h1 : a < 18446744073709551616) : bits .and .u64 a 63 = a % 64 := mask64 6 _ _ a rfl rfl (by omega) h0 h1
theorem lo5 {a : Int} (h0 : 0 ≤ a) (h1 : a < 18446744073709551616) : bits .and .u64 a 31 = a % 32 := mask64 5 _ _ a rfl rfl (by omega) h0 h1
/-- The lowest 32 bits, with their sign. -/
def s32 (v : Int) : Int := (wrap32 v) % 18446744073709551616
theorem signed21 (v : Int) (w : World) : Calls Tryd.prog 21 #[.int .u64 v] w fun e w' => e = .returned (.int .u64 (s32 v)) ∧ w' = w := by
  have hs : IntKind.u64.wrap (wrap32 v) = s32 v := wrapU _
  go_enter Tryd.func21, Tryd.ntmps21
  go_wp2
  go_ret
  exact ⟨ret_int hs, rfl⟩
theorem unsigned34 (v : Int) (w : World) : Calls Tryd.prog 34 #[.int .u64 v] w fun e w' => e = .returned (.int .u64 (v % 4294967296)) ∧ w' = w := by
  go_enter Tryd.func34, Tryd.ntmps34
  go_wp2
  go_ret
  exact ⟨rfl, rfl⟩
theorem truth35 (v : Bool) (w : World) : Calls Tryd.prog 35 #[.bool v] w fun e w' => e = .returned (.int .u64 (if v then 1 else 0)) ∧ w' = w := by
  cases v
  · go_enter Tryd.func35, Tryd.ntmps35
    go_wp2
    go_ret
    exact ⟨rfl, rfl⟩
  · go_enter Tryd.func35, Tryd.ntmps35
    go_wp2
    go_ret
    exact ⟨rfl, rfl⟩
theorem truth38 (v : Bool) (w : World) : Calls Tryd.prog 38 #[.bool v] w fun e w' => e = .returned (.int .u64 (if v then 1 else 0)) ∧ w' = w := by
  cases v
  · go_enter Tryd.func38, Tryd.ntmps38
    go_wp2
    go_ret
    exact ⟨rfl, rfl⟩
  · go_enter Tryd.func38, Tryd.ntmps38
    go_wp2
    go_ret
    exact ⟨rfl, rfl⟩
/-- What a product's highest bits have too much. -/
def neg (a b : Int) : Int := if wrap64 a < 0 then b else 0
theorem negative49 (a b : Int) (w : World) : Calls Tryd.prog 49 #[.int .u64 a, .int .u64 b] w fun e w' => e = .returned (.int .u64 (neg a b)) ∧ w' = w := by
  unfold neg
  by_cases h : wrap64 a < 0
  · rw [if_pos h]
    go_enter Tryd.func49, Tryd.ntmps49
    go_wp2
    go_ret
    exact ⟨rfl, rfl⟩
  · rw [if_neg h]
    go_enter Tryd.func49, Tryd.ntmps49
    go_wp2
    go_ret
    exact ⟨rfl, rfl⟩
theorem mul_lt {x y : Int} (x0 : 0 ≤ x) (x1 : x < 4294967296) (y0 : 0 ≤ y) (y1 : y < 4294967296) : 0 ≤ x * y ∧ x * y ≤ 18446744065119617025 := by
  refine ⟨Int.mul_nonneg x0 y0, ?_⟩
  have t : x * y ≤ 4294967295 * 4294967295 := Int.mul_le_mul (by omega) (by omega) y0 (by omega)
  exact t
theorem hi_sum (p q r s : Int) : s + (q + p / 4294967296) / 4294967296 + ((q + p / 4294967296) % 4294967296 + r) / 4294967296 = (s * 18446744073709551616 + (q + r) * 4294967296 + p) / 18446744073709551616 := by omega
theorem hi_all (a b : Int) : (a / 4294967296) * (b / 4294967296) * 18446744073709551616 + ((a / 4294967296) * (b % 4294967296) + (a % 4294967296) * (b / 4294967296)) * 4294967296 + (a % 4294967296) * (b % 4294967296) = a * b := by
  have ea : a = 4294967296 * (a / 4294967296) + a % 4294967296 := by omega
  have eb : b = 4294967296 * (b / 4294967296) + b % 4294967296 := by omega
  generalize a / 4294967296 = x at *
  generalize a % 4294967296 = y at *
  generalize b / 4294967296 = u at *
  generalize b % 4294967296 = v at *
  subst ea eb
  have : (18446744073709551616 : Int) = 4294967296 * 4294967296 := rfl
  rw [this]
  simp only [Int.add_mul, Int.mul_add, Int.mul_assoc, Int.mul_left_comm, Int.mul_comm]
  omega
theorem ret_pair {k l : IntKind} {a b c d : Int} (h : a = c) (g : b = d) : Ending.returned (.tuple #[.int k a, .int l b]) = .returned (.tuple #[.int k c, .int l d]) := by rw [h, g]
set_option maxHeartbeats 1000000 in
theorem mul65 (a b : Int) (a0 : 0 ≤ a) (a1 : a < 18446744073709551616) (b0 : 0 ≤ b) (b1 : b < 18446744073709551616) (w : World) : Calls Tryd.prog 65 #[.int .u64 a, .int .u64 b] w fun e w' => e = .returned (.tuple #[.int .u64 (a * b / 18446744073709551616), .int .u64 (IntKind.u64.wrap (a * b))]) ∧ w' = w := by
  have hA : bits .and .u64 a 4294967295 = a % 4294967296 := lo32 a0 a1
  have hB : bits .and .u64 b 4294967295 = b % 4294967296 := lo32 b0 b1
  have X := hi_all a b
  have P := mul_lt (x := a % 4294967296) (y := b % 4294967296) (by omega) (by omega) (by omega) (by omega)
  have Q := mul_lt (x := a / 4294967296) (y := b % 4294967296) (by omega) (by omega) (by omega) (by omega)
  have R := mul_lt (x := a % 4294967296) (y := b / 4294967296) (by omega) (by omega) (by omega) (by omega)
  have S := mul_lt (x := a / 4294967296) (y := b / 4294967296) (by omega) (by omega) (by omega) (by omega)
  generalize hx0 : a % 4294967296 = x0 at *
  generalize hx1 : a / 4294967296 = x1 at *
  generalize hy0 : b % 4294967296 = y0 at *
  generalize hy1 : b / 4294967296 = y1 at *
  generalize hp : x0 * y0 = p at *
  generalize hq : x1 * y0 = q at *
  generalize hr : x0 * y1 = r at *
  generalize hs : x1 * y1 = s at *
  have T : bits .and .u64 (q + p / 4294967296) 4294967295 = (q + p / 4294967296) % 4294967296 := lo32 (by omega) (by omega)
  have HX : Hid (s * 18446744073709551616 + (q + r) * 4294967296 + p = a * b) := X
  clear X
  go_enter Tryd.func65, Tryd.ntmps65
  go_wp2
  go_ret2
  exact ⟨ret_pair (by rw [hi_sum, HX.out]) rfl, rfl⟩
set_option maxHeartbeats 1000000 in
theorem high39 (a b : Int) (a0 : 0 ≤ a) (a1 : a < 18446744073709551616) (b0 : 0 ≤ b) (b1 : b < 18446744073709551616) (w : World) : Calls Tryd.prog 39 #[.int .u64 a, .int .u64 b] w fun e w' => e = .returned (.int .u64 (a * b / 18446744073709551616)) ∧ w' = w := by
  have hA : bits .and .u64 a 4294967295 = a % 4294967296 := lo32 a0 a1
  have hB : bits .and .u64 b 4294967295 = b % 4294967296 := lo32 b0 b1
  have X := hi_all a b
  have P := mul_lt (x := a % 4294967296) (y := b % 4294967296) (by omega) (by omega) (by omega) (by omega)
  have Q := mul_lt (x := a / 4294967296) (y := b % 4294967296) (by omega) (by omega) (by omega) (by omega)
  have R := mul_lt (x := a % 4294967296) (y := b / 4294967296) (by omega) (by omega) (by omega) (by omega)
  have S := mul_lt (x := a / 4294967296) (y := b / 4294967296) (by omega) (by omega) (by omega) (by omega)
  generalize hx0 : a % 4294967296 = x0 at *
  generalize hx1 : a / 4294967296 = x1 at *
  generalize hy0 : b % 4294967296 = y0 at *
  generalize hy1 : b / 4294967296 = y1 at *
  generalize hp : x0 * y0 = p at *
  generalize hq : x1 * y0 = q at *
  generalize hr : x0 * y1 = r at *
  generalize hs : x1 * y1 = s at *
  have T : bits .and .u64 (q + p / 4294967296) 4294967295 = (q + p / 4294967296) % 4294967296 := lo32 (by omega) (by omega)
  have HX : Hid (s * 18446744073709551616 + (q + r) * 4294967296 + p = a * b) := X
  clear X
  go_enter Tryd.func39, Tryd.ntmps39
  go_wp2
  go_ret
  exact ⟨ret_int (by rw [hi_sum, HX.out]), rfl⟩
theorem high48 (a b : Int) (a0 : 0 ≤ a) (a1 : a < 18446744073709551616) (b0 : 0 ≤ b) (b1 : b < 18446744073709551616) (w : World) : Calls Tryd.prog 48 #[.int .u64 a, .int .u64 b] w fun e w' => e = .returned (.int .u64 (a * b / 18446744073709551616)) ∧ w' = w := by
  go_enter Tryd.func48, Tryd.ntmps48
  go_wp2_with ((go_at_call 65; refine (mul65 a b a0 a1 b0 b1 _).mono ?_; rintro e w' ⟨rfl, rfl⟩))
  go_ret
  exact ⟨rfl, rfl⟩
theorem or_top {v : Int} (v0 : 0 ≤ v) (v1 : v < 4294967296) : bits .or .u64 v 18446744069414584320 = v + 18446744069414584320 := by
  rw [u64_or v 18446744069414584320 v0 (by omega) (by omega) (by omega)]
  have e : (18446744069414584320 : Int).toNat = 2 ^ 32 * 4294967295 := rfl
  rw [e, Nat.or_comm, ← Nat.two_pow_add_eq_or_of_lt (by omega)]
  omega
theorem s32_lo (v : Int) (v0 : 0 ≤ v) (v1 : v < 2147483648) : s32 v = v := by unfold s32 wrap32; omega
theorem s32_hi (v : Int) (v0 : 2147483648 ≤ v) (v1 : v < 4294967296) : s32 v = v + 18446744069414584320 := by unfold s32 wrap32; omega
theorem s32_mod (v : Int) : s32 (v % 4294967296) = s32 v := by unfold s32 wrap32; omega
set_option maxHeartbeats 1000000 in
theorem sign37 (v : Int) (a0 : 0 ≤ v) (a1 : v < 4294967296) (w : World) : Calls Tryd.prog 37 #[.int .u64 v, .int .u64 32] w fun e w' => e = .returned (.int .u64 (s32 v)) ∧ w' = w := by
  by_cases h : v < 2147483648
  · have e : bits .and .u64 (v / 2147483648) 1 = 0 := by rw [show v / 2147483648 = 0 by omega]; rfl
    go_enter Tryd.func37, Tryd.ntmps37
    go_wp2
    go_ret
    exact ⟨ret_int (s32_lo v a0 h).symm, rfl⟩
  · have e : bits .and .u64 (v / 2147483648) 1 = 1 := by rw [show v / 2147483648 = 1 by omega]; rfl
    have e2 : IntKind.u64.wrap 79228162514264337589248983040 = 18446744069414584320 := by rw [wrapU]; rfl
    have e3 := or_top a0 a1
    go_enter Tryd.func37, Tryd.ntmps37
    go_wp2
    go_ret
    exact ⟨ret_int (s32_hi v (by omega) a1).symm, rfl⟩
end Go.Proofs.YtnmpbihpoefeoaaDoor
