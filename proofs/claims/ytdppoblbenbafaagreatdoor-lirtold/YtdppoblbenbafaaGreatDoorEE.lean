/- What the operations make of two numbers: the program's. What the operations make of two numbers: the document's own. -/
import Derived.Test.YtdppoblbenbafaaGreatDoorGG
namespace Go.Proofs.YtdppoblbenbafaaGreatDoor
section
open Go.RowKit Go.Shelf
theorem wrapU (z : Int) : IntKind.u64.wrap z = z % 18446744073709551616 := by
  simp [IntKind.wrap, IntKind.signed, IntKind.bits]
theorem mask64 (k : Nat) (msk p a : Int) (hp : p = ((2 ^ k : Nat) : Int)) (hm : msk = p - 1) (hk : k ≤ 64) (h0 : 0 ≤ a) (h1 : a < 18446744073709551616) : bits .and .u64 a msk = a % p := by
  have e2 : 0 < 2 ^ k := Nat.two_pow_pos k
  have e3 : 2 ^ k ≤ 2 ^ 64 := Nat.pow_le_pow_right (by omega) hk
  subst hm
  rw [u64_and a (p - 1) h0 (by omega) (by omega) (by omega)]
  have e : (p - 1).toNat = 2 ^ k - 1 := by omega
  rw [e, Nat.and_two_pow_sub_one_eq_mod, Int.natCast_emod, Int.toNat_of_nonneg h0, hp]
theorem lo32 {a : Int} (h0 : 0 ≤ a) (h1 : a < 18446744073709551616) : bits .and .u64 a 4294967295 = a % 4294967296 := mask64 32 _ _ a rfl rfl (by omega) h0 h1
theorem lo6 {a : Int} (h0 : 0 ≤ a) (h1 : a < 18446744073709551616) : bits .and .u64 a 63 = a % 64 := mask64 6 _ _ a rfl rfl (by omega) h0 h1
/-- By how many bits a number shifts; a number without its sign. -/
def shN (b : Int) : Nat := (b % 18446744073709551616 % 64).toNat
def U (a : Int) : Int := a % 18446744073709551616
theorem U_bd (a : Int) : 0 ≤ U a ∧ U a < 18446744073709551616 := by unfold U; omega
theorem wrap_U (a : Int) : IntKind.u64.wrap a = U a := wrapU a
theorem shN_lt (b : Int) : shN b < 64 := by unfold shN; omega
def quoV (a b : Int) : Int := if b = 0 then -1 else wrap64 (a.tdiv b)
def remV (a b : Int) : Int := if b = 0 then a else a.tmod b
def sllV (a b : Int) : Int := wrap64 (a * 2 ^ shN b)
def srlV (a b : Int) : Int := wrap64 (U a / 2 ^ shN b)
def sraV (a b : Int) : Int := a / 2 ^ shN b
def sltV (a b : Int) : Int := if a < b then 1 else 0
def sltuV (a b : Int) : Int := if U a < U b then 1 else 0
def ngV (a b : Int) : Int := if a < 0 then b else 0
def hiV (a b : Int) : Int := wrap64 (wrap64 (wrap64 (U a * U b / 18446744073709551616) - ngV a b) - ngV b a)
set_option maxHeartbeats 1000000
theorem add12 (a b : Int) (w : World)  : Calls Tryz.prog 43 #[.int .i64 a, .int .i64 b] w fun e w' => e = .returned (.int .i64 (wrap64 (a + b))) ∧ w' = w := by
  go_enter Tryz.func43, Tryz.ntmps43
  go_wp2
  go_ret
  exact ⟨rfl, rfl⟩
theorem sub13 (a b : Int) (w : World)  : Calls Tryz.prog 44 #[.int .i64 a, .int .i64 b] w fun e w' => e = .returned (.int .i64 (wrap64 (a - b))) ∧ w' = w := by
  go_enter Tryz.func44, Tryz.ntmps44
  go_wp2
  go_ret
  exact ⟨rfl, rfl⟩
theorem mul14 (a b : Int) (w : World)  : Calls Tryz.prog 45 #[.int .i64 a, .int .i64 b] w fun e w' => e = .returned (.int .i64 (wrap64 (a * b))) ∧ w' = w := by
  go_enter Tryz.func45, Tryz.ntmps45
  go_wp2
  go_ret
  exact ⟨rfl, rfl⟩
theorem and18 (a b : Int) (w : World)  : Calls Tryz.prog 49 #[.int .i64 a, .int .i64 b] w fun e w' => e = .returned (.int .i64 (bits .and .i64 a b)) ∧ w' = w := by
  go_enter Tryz.func49, Tryz.ntmps49
  go_wp2
  go_ret
  exact ⟨rfl, rfl⟩
theorem or19 (a b : Int) (w : World)  : Calls Tryz.prog 50 #[.int .i64 a, .int .i64 b] w fun e w' => e = .returned (.int .i64 (bits .or .i64 a b)) ∧ w' = w := by
  go_enter Tryz.func50, Tryz.ntmps50
  go_wp2
  go_ret
  exact ⟨rfl, rfl⟩
theorem xor20 (a b : Int) (w : World)  : Calls Tryz.prog 51 #[.int .i64 a, .int .i64 b] w fun e w' => e = .returned (.int .i64 (bits .xor .i64 a b)) ∧ w' = w := by
  go_enter Tryz.func51, Tryz.ntmps51
  go_wp2
  go_ret
  exact ⟨rfl, rfl⟩
theorem quo16 (a b : Int) (w : World)  : Calls Tryz.prog 47 #[.int .i64 a, .int .i64 b] w fun e w' => e = .returned (.int .i64 (quoV a b)) ∧ w' = w := by
  by_cases h : b = 0
  · subst h
    go_enter Tryz.func47, Tryz.ntmps47
    go_wp2
    go_ret
    exact ⟨rfl, rfl⟩
  · have HR : Hid (quoV a b = wrap64 (a.tdiv b)) := if_neg h
    generalize quoV a b = R at *
    go_enter Tryz.func47, Tryz.ntmps47
    go_wp2
    go_ret
    exact ⟨ret_int HR.out.symm, rfl⟩
theorem rem17 (a b : Int) (w : World)  : Calls Tryz.prog 48 #[.int .i64 a, .int .i64 b] w fun e w' => e = .returned (.int .i64 (remV a b)) ∧ w' = w := by
  by_cases h : b = 0
  · subst h
    go_enter Tryz.func48, Tryz.ntmps48
    go_wp2
    go_ret
    exact ⟨rfl, rfl⟩
  · have HR : Hid (remV a b = a.tmod b) := if_neg h
    generalize remV a b = R at *
    go_enter Tryz.func48, Tryz.ntmps48
    go_wp2
    go_ret
    exact ⟨ret_int HR.out.symm, rfl⟩
theorem shift22 (b : Int) (w : World) : Calls Tryz.prog 53 #[.int .i64 b] w fun e w' => e = .returned (.int .u64 (shN b : Nat)) ∧ w' = w := by
  have HU : Hid ((IntKind.u64.wrap b).tmod 64 = ((shN b : Nat) : Int)) := by
    show _ = _
    rw [wrapU, Int.tmod_eq_emod_of_nonneg (by omega)]
    unfold shN
    omega
  go_enter Tryz.func53, Tryz.ntmps53
  go_wp2
  go_ret
  exact ⟨ret_int HU.out, rfl⟩
theorem sll21 (a b : Int) (w : World)  : Calls Tryz.prog 52 #[.int .i64 a, .int .i64 b] w fun e w' => e = .returned (.int .i64 (sllV a b)) ∧ w' = w := by
  have hl := shN_lt b
  have hS := shift22 b
  have hU := wrap_U a
  have hu := U_bd a
  unfold sllV
  generalize shN b = n at *
  generalize U a = A at *
  go_enter Tryz.func52, Tryz.ntmps52
  go_wp2_with (first | (go_at_call 53; refine (hS _).mono ?_; rintro e w' ⟨rfl, rfl⟩))
  go_ret
  exact ⟨rfl, rfl⟩
theorem srl23 (a b : Int) (w : World)  : Calls Tryz.prog 54 #[.int .i64 a, .int .i64 b] w fun e w' => e = .returned (.int .i64 (srlV a b)) ∧ w' = w := by
  have hl := shN_lt b
  have hS := shift22 b
  have hU := wrap_U a
  have hu := U_bd a
  unfold srlV
  generalize shN b = n at *
  generalize U a = A at *
  go_enter Tryz.func54, Tryz.ntmps54
  go_wp2_with (first | (go_at_call 53; refine (hS _).mono ?_; rintro e w' ⟨rfl, rfl⟩))
  go_ret
  exact ⟨rfl, rfl⟩
theorem sra24 (a b : Int) (w : World)  : Calls Tryz.prog 55 #[.int .i64 a, .int .i64 b] w fun e w' => e = .returned (.int .i64 (sraV a b)) ∧ w' = w := by
  have hl := shN_lt b
  have hS := shift22 b
  have hU := wrap_U a
  have hu := U_bd a
  unfold sraV
  generalize shN b = n at *
  generalize U a = A at *
  go_enter Tryz.func55, Tryz.ntmps55
  go_wp2_with (first | (go_at_call 53; refine (hS _).mono ?_; rintro e w' ⟨rfl, rfl⟩))
  go_ret
  exact ⟨rfl, rfl⟩
theorem truth26 (v : Bool) (w : World) : Calls Tryz.prog 57 #[.bool v] w fun e w' => e = .returned (.int .i64 (if v then 1 else 0)) ∧ w' = w := by
  cases v
  all_goals
    go_enter Tryz.func57, Tryz.ntmps57
    go_wp2
    go_ret
    exact ⟨rfl, rfl⟩
theorem truth9 (v : Bool) (w : World) : Calls Tryz.prog 130 #[.bool v] w fun e w' => e = .returned (.int .i64 (if v then 1 else 0)) ∧ w' = w := by
  cases v
  all_goals
    go_enter Tryz.func130, Tryz.ntmps130
    go_wp2
    go_ret
    exact ⟨rfl, rfl⟩
theorem slt25 (a b : Int) (w : World) : Calls Tryz.prog 56 #[.int .i64 a, .int .i64 b] w fun e w' => e = .returned (.int .i64 (sltV a b)) ∧ w' = w := by
  have hT := truth26
  by_cases h : a < b
  · have HV : Hid ((1 : Int) = sltV a b) := (if_pos h).symm
    go_enter Tryz.func56, Tryz.ntmps56
    go_wp2_with (first | (go_at_call 57; refine (hT _ _).mono ?_; rintro e w' ⟨rfl, rfl⟩))
    go_ret
    exact ⟨ret_int HV.out, rfl⟩
  · have HV : Hid ((0 : Int) = sltV a b) := (if_neg h).symm
    go_enter Tryz.func56, Tryz.ntmps56
    go_wp2_with (first | (go_at_call 57; refine (hT _ _).mono ?_; rintro e w' ⟨rfl, rfl⟩))
    go_ret
    exact ⟨ret_int HV.out, rfl⟩
theorem sltu27 (a b : Int) (w : World) : Calls Tryz.prog 58 #[.int .i64 a, .int .i64 b] w fun e w' => e = .returned (.int .i64 (sltuV a b)) ∧ w' = w := by
  have hT := truth26
  have hA := wrap_U a
  have hB := wrap_U b
  by_cases h : U a < U b
  · have HV : Hid ((1 : Int) = sltuV a b) := (if_pos h).symm
    go_enter Tryz.func58, Tryz.ntmps58
    go_wp2_with (first | (go_at_call 57; refine (hT _ _).mono ?_; rintro e w' ⟨rfl, rfl⟩))
    go_ret
    exact ⟨ret_int HV.out, rfl⟩
  · have HV : Hid ((0 : Int) = sltuV a b) := (if_neg h).symm
    go_enter Tryz.func58, Tryz.ntmps58
    go_wp2_with (first | (go_at_call 57; refine (hT _ _).mono ?_; rintro e w' ⟨rfl, rfl⟩))
    go_ret
    exact ⟨ret_int HV.out, rfl⟩
theorem negative31 (a b : Int) (w : World) : Calls Tryz.prog 87 #[.int .i64 a, .int .i64 b] w fun e w' => e = .returned (.int .i64 (ngV a b)) ∧ w' = w := by
  unfold ngV
  by_cases h : a < 0
  · rw [if_pos h]
    go_enter Tryz.func87, Tryz.ntmps87
    go_wp2
    go_ret
    exact ⟨rfl, rfl⟩
  · rw [if_neg h]
    go_enter Tryz.func87, Tryz.ntmps87
    go_wp2
    go_ret
    exact ⟨rfl, rfl⟩
set_option maxRecDepth 20000 in
theorem high15 (a b : Int) (w : World) : Calls Tryz.prog 46 #[.int .i64 a, .int .i64 b] w fun e w' => e = .returned (.int .i64 (hiV a b)) ∧ w' = w := by
  have hM : ∀ w, Calls Tryz.prog 86 #[.int .u64 (U a), .int .u64 (U b)] w fun e w' => e = .returned (.tuple #[.int .u64 (U a * U b / 18446744073709551616), .int .u64 (U a * U b % 18446744073709551616)]) ∧ w' = w := fun w => by
    have t := Tryz.bits_Mul64 (U a).toNat (U b).toNat (by have := U_bd a; omega) (by have := U_bd b; omega) w
    rw [Int.toNat_of_nonneg (U_bd a).1, Int.toNat_of_nonneg (U_bd b).1, Int.natCast_ediv, Int.natCast_emod, Int.natCast_mul, Int.toNat_of_nonneg (U_bd a).1, Int.toNat_of_nonneg (U_bd b).1] at t
    exact t
  have hA := wrap_U a
  have hB := wrap_U b
  have hN := negative31 a b
  have hN' := negative31 b a
  unfold hiV
  generalize U a = A at *
  generalize U b = B at *
  generalize A * B / 18446744073709551616 = H at *
  generalize ngV a b = n1 at *
  generalize ngV b a = n2 at *
  go_enter Tryz.func46, Tryz.ntmps46
  go_wp2_with (first | (go_at_call 86; refine (hM _).mono ?_; rintro e w' ⟨rfl, rfl⟩) | (go_at_call 87; (first | (with_reducible refine (hN _).mono ?_) | (with_reducible refine (hN' _).mono ?_)); rintro e w' ⟨rfl, rfl⟩))
  go_ret
  exact ⟨rfl, rfl⟩
end
section
open Go.RowKit Go.Shelf
set_option maxHeartbeats 2000000
theorem mul_lt {x y : Int} (x0 : 0 ≤ x) (x1 : x < 4294967296) (y0 : 0 ≤ y) (y1 : y < 4294967296) : 0 ≤ x * y ∧ x * y ≤ 18446744065119617025 := by
  refine ⟨Int.mul_nonneg x0 y0, ?_⟩
  have t : x * y ≤ 4294967295 * 4294967295 := Int.mul_le_mul (by omega) (by omega) y0 (by omega)
  exact t
theorem hi_sum (p q r s : Int) : s + (q + p / 4294967296) / 4294967296 + ((q + p / 4294967296) % 4294967296 + r) / 4294967296 = (s * 18446744073709551616 + (q + r) * 4294967296 + p) / 18446744073709551616 := by omega
theorem hi_all (a b : Int) : (a / 4294967296) * (b / 4294967296) * 18446744073709551616 + ((a / 4294967296) * (b % 4294967296) + (a % 4294967296) * (b / 4294967296)) * 4294967296 + (a % 4294967296) * (b % 4294967296) = a * b := by
  have ea : a = 4294967296 * (a / 4294967296) + a % 4294967296 := by omega
  have eb : b = 4294967296 * (b / 4294967296) + b % 4294967296 := by omega
  generalize a / 4294967296 = x at *
  generalize a % 4294967296 = y at *
  generalize b / 4294967296 = u at *
  generalize b % 4294967296 = v at *
  subst ea eb
  have : (18446744073709551616 : Int) = 4294967296 * 4294967296 := rfl
  rw [this]
  simp only [Int.add_mul, Int.mul_add, Int.mul_assoc, Int.mul_left_comm, Int.mul_comm]
  omega
theorem hi_eq (H n1 n2 m1 m2 : Int) (h1 : (n1 - m1) % 18446744073709551616 = 0) (h2 : (n2 - m2) % 18446744073709551616 = 0) : wrap64 ((((H - m1) % 18446744073709551616) - m2) % 18446744073709551616) = wrap64 (wrap64 (wrap64 H - n1) - n2) := by
  unfold wrap64
  omega
theorem hi_eq1 (H n1 m1 : Int) (h1 : (n1 - m1) % 18446744073709551616 = 0) : wrap64 ((H - m1) % 18446744073709551616) = wrap64 (wrap64 (wrap64 H - n1) - 0) := by
  unfold wrap64
  omega
theorem hi_eq2 (H n2 m2 : Int) (h2 : (n2 - m2) % 18446744073709551616 = 0) : wrap64 ((H - m2) % 18446744073709551616) = wrap64 (wrap64 (wrap64 H - 0) - n2) := by
  unfold wrap64
  omega
theorem hi_eq0 (H : Int) : wrap64 H = wrap64 (wrap64 (wrap64 H - 0) - 0) := by
  unfold wrap64
  omega
theorem ret_two {a b : Int} {v : Value} (h : a = b) : Ending.returned (.tuple #[.int .i64 a, v]) = .returned (.tuple #[.int .i64 b, v]) := by rw [h]
theorem U_sub (a : Int) : (a - U a) % 18446744073709551616 = 0 := by unfold U; omega
set_option maxRecDepth 20000 in
theorem high8 (a b : Int) (w : World) : Calls Tryz.prog 129 #[.int .i64 a, .int .i64 b] w fun e w' => e = .returned (.int .i64 (hiV a b)) ∧ w' = w := by
  obtain ⟨x0, x1⟩ := U_bd a
  obtain ⟨y0, y1⟩ := U_bd b
  have hUa := wrap_U a
  have hUb := wrap_U b
  have wA : ∀ z, IntKind.u64.wrap z = z % 18446744073709551616 := wrapU
  have hA : bits .and .u64 (U a) 4294967295 = U a % 4294967296 := lo32 x0 x1
  have hB : bits .and .u64 (U b) 4294967295 = U b % 4294967296 := lo32 y0 y1
  have X := hi_all (U a) (U b)
  have P := mul_lt (x := U a % 4294967296) (y := U b % 4294967296) (by omega) (by omega) (by omega) (by omega)
  have Q := mul_lt (x := U a / 4294967296) (y := U b % 4294967296) (by omega) (by omega) (by omega) (by omega)
  have R := mul_lt (x := U a % 4294967296) (y := U b / 4294967296) (by omega) (by omega) (by omega) (by omega)
  have S := mul_lt (x := U a / 4294967296) (y := U b / 4294967296) (by omega) (by omega) (by omega) (by omega)
  have HV : Hid (hiV a b = wrap64 (wrap64 (wrap64 (U a * U b / 18446744073709551616) - ngV a b) - ngV b a)) := rfl
  have HSa : Hid ((a - U a) % 18446744073709551616 = 0) := U_sub a
  have HSb : Hid ((b - U b) % 18446744073709551616 = 0) := U_sub b
  generalize hiV a b = HI at *
  generalize hx : U a = A at *
  generalize hy : U b = B at *
  generalize hx0 : A % 4294967296 = x0 at *
  generalize hx1 : A / 4294967296 = x1 at *
  generalize hy0 : B % 4294967296 = y0 at *
  generalize hy1 : B / 4294967296 = y1 at *
  generalize hp : x0 * y0 = p at *
  generalize hq : x1 * y0 = q at *
  generalize hr : x0 * y1 = r at *
  generalize hs : x1 * y1 = s at *
  have T : bits .and .u64 (q + p / 4294967296) 4294967295 = (q + p / 4294967296) % 4294967296 := lo32 (by omega) (by omega)
  have HX : Hid (s * 18446744073709551616 + (q + r) * 4294967296 + p = A * B) := X
  clear X wA
  by_cases ha : a < 0
  · have e1 : ngV a b = b := if_pos ha
    by_cases hb : b < 0
    · have e2 : ngV b a = a := if_pos hb
      have HV' : Hid (HI = wrap64 (wrap64 (wrap64 (A * B / 18446744073709551616) - b) - a)) := by
        have t := HV.out
        rw [e1, e2] at t
        exact t
      clear e1 e2 HV
      go_enter Tryz.func129, Tryz.ntmps129
      go_wp2
      go_ret
      exact ⟨ret_int (by rw [hi_sum, HX.out, HV'.out, wrapU, wrapU]; exact hi_eq _ _ _ _ _ HSb.out HSa.out), rfl⟩
    · have e2 : ngV b a = 0 := if_neg hb
      have HV' : Hid (HI = wrap64 (wrap64 (wrap64 (A * B / 18446744073709551616) - b) - 0)) := by
        have t := HV.out
        rw [e1, e2] at t
        exact t
      clear e1 e2 HV
      go_enter Tryz.func129, Tryz.ntmps129
      go_wp2
      go_ret
      exact ⟨ret_int (by rw [hi_sum, HX.out, HV'.out, wrapU]; exact hi_eq1 _ _ _ HSb.out), rfl⟩
  · have e1 : ngV a b = 0 := if_neg ha
    by_cases hb : b < 0
    · have e2 : ngV b a = a := if_pos hb
      have HV' : Hid (HI = wrap64 (wrap64 (wrap64 (A * B / 18446744073709551616) - 0) - a)) := by
        have t := HV.out
        rw [e1, e2] at t
        exact t
      clear e1 e2 HV
      go_enter Tryz.func129, Tryz.ntmps129
      go_wp2
      go_ret
      exact ⟨ret_int (by rw [hi_sum, HX.out, HV'.out, wrapU]; exact hi_eq2 _ _ _ HSa.out), rfl⟩
    · have e2 : ngV b a = 0 := if_neg hb
      have HV' : Hid (HI = wrap64 (wrap64 (wrap64 (A * B / 18446744073709551616) - 0) - 0)) := by
        have t := HV.out
        rw [e1, e2] at t
        exact t
      clear e1 e2 HV
      go_enter Tryz.func129, Tryz.ntmps129
      go_wp2
      go_ret
      exact ⟨ret_int (by rw [hi_sum, HX.out, HV'.out]; exact hi_eq0 _), rfl⟩
/-- A number that is shifted up, without its sign first. -/
theorem sll_eq (a : Int) (p : Int) : wrap64 (U a * p % 18446744073709551616) = wrap64 (a * p) := by
  have e : U a * p % 18446744073709551616 = a * p % 18446744073709551616 := by
    rw [Int.mul_emod, show U a % 18446744073709551616 = a % 18446744073709551616 by unfold U; omega, ← Int.mul_emod]
  rw [e]
  unfold wrap64
  omega
theorem sh_eq (b : Int) : bits .and .u64 (U b) 63 = ((shN b : Nat) : Int) := by
  rw [lo6 (U_bd b).1 (U_bd b).2]
  unfold shN U
  omega
theorem quo_least : quoV (-9223372036854775808) (-1) = -9223372036854775808 := by
  unfold quoV wrap64
  decide
theorem rem_least : remV (-9223372036854775808) (-1) = 0 := by
  unfold remV
  decide
theorem r_add (a b : Int) (w : World) : Calls Tryz.prog 96 #[.string ⟨#[97, 100, 100]⟩, .int .i64 a, .int .i64 b] w fun e w' => e = .returned (.tuple #[.int .i64 (wrap64 (a + b)), .bool true]) ∧ w' = w := by
  go_enter Tryz.func96, Tryz.ntmps96
  go_wp2
  go_ret2
  exact ⟨rfl, rfl⟩
theorem r_sub (a b : Int) (w : World) : Calls Tryz.prog 96 #[.string ⟨#[115, 117, 98]⟩, .int .i64 a, .int .i64 b] w fun e w' => e = .returned (.tuple #[.int .i64 (wrap64 (a - b)), .bool true]) ∧ w' = w := by
  go_enter Tryz.func96, Tryz.ntmps96
  go_wp2
  go_ret2
  exact ⟨rfl, rfl⟩
theorem r_mul (a b : Int) (w : World) : Calls Tryz.prog 96 #[.string ⟨#[109, 117, 108]⟩, .int .i64 a, .int .i64 b] w fun e w' => e = .returned (.tuple #[.int .i64 (wrap64 (a * b)), .bool true]) ∧ w' = w := by
  go_enter Tryz.func96, Tryz.ntmps96
  go_wp2
  go_ret2
  exact ⟨rfl, rfl⟩
theorem r_and (a b : Int) (w : World) : Calls Tryz.prog 96 #[.string ⟨#[97, 110, 100]⟩, .int .i64 a, .int .i64 b] w fun e w' => e = .returned (.tuple #[.int .i64 (bits .and .i64 a b), .bool true]) ∧ w' = w := by
  go_enter Tryz.func96, Tryz.ntmps96
  go_wp2
  go_ret2
  exact ⟨rfl, rfl⟩
theorem r_or (a b : Int) (w : World) : Calls Tryz.prog 96 #[.string ⟨#[111, 114]⟩, .int .i64 a, .int .i64 b] w fun e w' => e = .returned (.tuple #[.int .i64 (bits .or .i64 a b), .bool true]) ∧ w' = w := by
  go_enter Tryz.func96, Tryz.ntmps96
  go_wp2
  go_ret2
  exact ⟨rfl, rfl⟩
theorem r_xor (a b : Int) (w : World) : Calls Tryz.prog 96 #[.string ⟨#[120, 111, 114]⟩, .int .i64 a, .int .i64 b] w fun e w' => e = .returned (.tuple #[.int .i64 (bits .xor .i64 a b), .bool true]) ∧ w' = w := by
  go_enter Tryz.func96, Tryz.ntmps96
  go_wp2
  go_ret2
  exact ⟨rfl, rfl⟩
theorem r_mulh (a b : Int) (w : World) : Calls Tryz.prog 96 #[.string ⟨#[109, 117, 108, 104]⟩, .int .i64 a, .int .i64 b] w fun e w' => e = .returned (.tuple #[.int .i64 (hiV a b), .bool true]) ∧ w' = w := by
  have hH := high8 a b
  go_enter Tryz.func96, Tryz.ntmps96
  go_wp2_with (first | (go_at_call 129; refine (hH _).mono ?_; rintro e w' ⟨rfl, rfl⟩))
  go_ret2
  exact ⟨rfl, rfl⟩
theorem r_div (a b : Int) (w : World) : Calls Tryz.prog 96 #[.string ⟨#[100, 105, 118]⟩, .int .i64 a, .int .i64 b] w fun e w' => e = .returned (.tuple #[.int .i64 (quoV a b), .bool true]) ∧ w' = w := by
  by_cases h : b = 0
  · subst h
    go_enter Tryz.func96, Tryz.ntmps96
    go_wp2
    go_ret2
    exact ⟨rfl, rfl⟩
  · by_cases hl : a = -9223372036854775808
    · by_cases hm : b = -1
      · subst hl hm
        rw [quo_least]
        go_enter Tryz.func96, Tryz.ntmps96
        go_wp2
        go_ret2
        exact ⟨rfl, rfl⟩
      · have HR : Hid (quoV a b = wrap64 (a.tdiv b)) := if_neg h
        generalize quoV a b = R at *
        have h1 : (b == 0) = false := by simp; omega
        have h2 : (a == -9223372036854775808) = true := by simp; omega
        have h3 : (b == -1) = false := by simp; omega
        clear hl
        go_enter Tryz.func96, Tryz.ntmps96
        go_wp2
        go_ret2
        exact ⟨ret_two HR.out.symm, rfl⟩
    · have HR : Hid (quoV a b = wrap64 (a.tdiv b)) := if_neg h
      generalize quoV a b = R at *
      have h1 : (b == 0) = false := by simp; omega
      have h2 : (a == -9223372036854775808) = false := by simp; omega
      go_enter Tryz.func96, Tryz.ntmps96
      go_wp2
      go_ret2
      exact ⟨ret_two HR.out.symm, rfl⟩
theorem r_rem (a b : Int) (w : World) : Calls Tryz.prog 96 #[.string ⟨#[114, 101, 109]⟩, .int .i64 a, .int .i64 b] w fun e w' => e = .returned (.tuple #[.int .i64 (remV a b), .bool true]) ∧ w' = w := by
  by_cases h : b = 0
  · subst h
    go_enter Tryz.func96, Tryz.ntmps96
    go_wp2
    go_ret2
    exact ⟨rfl, rfl⟩
  · by_cases hl : a = -9223372036854775808
    · by_cases hm : b = -1
      · subst hl hm
        rw [rem_least]
        go_enter Tryz.func96, Tryz.ntmps96
        go_wp2
        go_ret2
        exact ⟨rfl, rfl⟩
      · have HR : Hid (remV a b = a.tmod b) := if_neg h
        generalize remV a b = R at *
        have h1 : (b == 0) = false := by simp; omega
        have h2 : (a == -9223372036854775808) = true := by simp; omega
        have h3 : (b == -1) = false := by simp; omega
        clear hl
        go_enter Tryz.func96, Tryz.ntmps96
        go_wp2
        go_ret2
        exact ⟨ret_two HR.out.symm, rfl⟩
    · have HR : Hid (remV a b = a.tmod b) := if_neg h
      generalize remV a b = R at *
      have h1 : (b == 0) = false := by simp; omega
      have h2 : (a == -9223372036854775808) = false := by simp; omega
      go_enter Tryz.func96, Tryz.ntmps96
      go_wp2
      go_ret2
      exact ⟨ret_two HR.out.symm, rfl⟩
theorem r_sll (a b : Int) (w : World) : Calls Tryz.prog 96 #[.string ⟨#[115, 108, 108]⟩, .int .i64 a, .int .i64 b] w fun e w' => e = .returned (.tuple #[.int .i64 (sllV a b), .bool true]) ∧ w' = w := by
  have hA := wrap_U a
  have hB := wrap_U b
  have h6 := sh_eq b
  have hn := shN_lt b
  have hu := U_bd a
  have HV : Hid (sllV a b = wrap64 (a * 2 ^ shN b)) := rfl
  have HS : Hid (∀ p, wrap64 (U a * p % 18446744073709551616) = wrap64 (a * p)) := sll_eq a
  generalize sllV a b = R at *
  generalize shN b = n at *
  generalize U a = A at *
  go_enter Tryz.func96, Tryz.ntmps96
  go_wp2
  go_ret2
  exact ⟨ret_two (by rw [wrapU, HS.out, HV.out]), rfl⟩
theorem r_srl (a b : Int) (w : World) : Calls Tryz.prog 96 #[.string ⟨#[115, 114, 108]⟩, .int .i64 a, .int .i64 b] w fun e w' => e = .returned (.tuple #[.int .i64 (srlV a b), .bool true]) ∧ w' = w := by
  have hA := wrap_U a
  have hB := wrap_U b
  have h6 := sh_eq b
  have hn := shN_lt b
  have hu := U_bd a
  unfold srlV
  generalize shN b = n at *
  generalize U a = A at *
  go_enter Tryz.func96, Tryz.ntmps96
  go_wp2
  go_ret2
  exact ⟨rfl, rfl⟩
theorem r_sra (a b : Int) (w : World) : Calls Tryz.prog 96 #[.string ⟨#[115, 114, 97]⟩, .int .i64 a, .int .i64 b] w fun e w' => e = .returned (.tuple #[.int .i64 (sraV a b), .bool true]) ∧ w' = w := by
  have hB := wrap_U b
  have h6 := sh_eq b
  have hn := shN_lt b
  unfold sraV
  generalize shN b = n at *
  go_enter Tryz.func96, Tryz.ntmps96
  go_wp2
  go_ret2
  exact ⟨rfl, rfl⟩
theorem r_slt (a b : Int) (w : World) : Calls Tryz.prog 96 #[.string ⟨#[115, 108, 116]⟩, .int .i64 a, .int .i64 b] w fun e w' => e = .returned (.tuple #[.int .i64 (sltV a b), .bool true]) ∧ w' = w := by
  have hT := truth9
  have hA := wrap_U a
  have hB := wrap_U b
  have h6 := sh_eq b
  by_cases h : a < b
  · have HV : Hid ((1 : Int) = sltV a b) := (if_pos h).symm
    go_enter Tryz.func96, Tryz.ntmps96
    go_wp2_with (first | (go_at_call 130; refine (hT _ _).mono ?_; rintro e w' ⟨rfl, rfl⟩))
    go_ret2
    exact ⟨ret_two HV.out, rfl⟩
  · have HV : Hid ((0 : Int) = sltV a b) := (if_neg h).symm
    go_enter Tryz.func96, Tryz.ntmps96
    go_wp2_with (first | (go_at_call 130; refine (hT _ _).mono ?_; rintro e w' ⟨rfl, rfl⟩))
    go_ret2
    exact ⟨ret_two HV.out, rfl⟩
theorem r_sltu (a b : Int) (w : World) : Calls Tryz.prog 96 #[.string ⟨#[115, 108, 116, 117]⟩, .int .i64 a, .int .i64 b] w fun e w' => e = .returned (.tuple #[.int .i64 (sltuV a b), .bool true]) ∧ w' = w := by
  have hT := truth9
  have hA := wrap_U a
  have hB := wrap_U b
  have h6 := sh_eq b
  by_cases h : U a < U b
  · have HV : Hid ((1 : Int) = sltuV a b) := (if_pos h).symm
    go_enter Tryz.func96, Tryz.ntmps96
    go_wp2_with (first | (go_at_call 130; refine (hT _ _).mono ?_; rintro e w' ⟨rfl, rfl⟩))
    go_ret2
    exact ⟨ret_two HV.out, rfl⟩
  · have HV : Hid ((0 : Int) = sltuV a b) := (if_neg h).symm
    go_enter Tryz.func96, Tryz.ntmps96
    go_wp2_with (first | (go_at_call 130; refine (hT _ _).mono ?_; rintro e w' ⟨rfl, rfl⟩))
    go_ret2
    exact ⟨ret_two HV.out, rfl⟩
theorem r_other (s : ByteArray) (a b : Int) (w : World) (h0 : (s.toList == [97, 100, 100]) = false) (h1 : (s.toList == [115, 117, 98]) = false) (h2 : (s.toList == [109, 117, 108]) = false) (h3 : (s.toList == [109, 117, 108, 104]) = false) (h4 : (s.toList == [100, 105, 118]) = false) (h5 : (s.toList == [114, 101, 109]) = false) (h6 : (s.toList == [97, 110, 100]) = false) (h7 : (s.toList == [111, 114]) = false) (h8 : (s.toList == [120, 111, 114]) = false) (h9 : (s.toList == [115, 108, 108]) = false) (h10 : (s.toList == [115, 114, 108]) = false) (h11 : (s.toList == [115, 114, 97]) = false) (h12 : (s.toList == [115, 108, 116]) = false) (h13 : (s.toList == [115, 108, 116, 117]) = false) : Calls Tryz.prog 96 #[.string s, .int .i64 a, .int .i64 b] w fun e w' => e = .returned (.tuple #[.int .i64 0, .bool false]) ∧ w' = w := by
  go_enter Tryz.func96, Tryz.ntmps96
  go_wp2
  go_ret2
  exact ⟨rfl, rfl⟩
end
end Go.Proofs.YtdppoblbenbafaaGreatDoor
