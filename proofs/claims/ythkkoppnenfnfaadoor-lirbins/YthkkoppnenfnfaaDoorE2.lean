/- What the operations make of two numbers: the document's own. -/
import Derived.Test.YthkkoppnenfnfaaDoorE1
namespace Go.Proofs.YthkkoppnenfnfaaDoor
open Go.RowKit Go.Shelf
set_option maxHeartbeats 2000000
theorem mul_lt {x y : Int} (x0 : 0 ≤ x) (x1 : x < 4294967296) (y0 : 0 ≤ y) (y1 : y < 4294967296) : 0 ≤ x * y ∧ x * y ≤ 18446744065119617025 := by
  refine ⟨Int.mul_nonneg x0 y0, ?_⟩
  have t : x * y ≤ 4294967295 * 4294967295 := Int.mul_le_mul (by omega) (by omega) y0 (by omega)
  exact t
theorem hi_sum (p q r s : Int) : s + (q + p / 4294967296) / 4294967296 + ((q + p / 4294967296) % 4294967296 + r) / 4294967296 = (s * 18446744073709551616 + (q + r) * 4294967296 + p) / 18446744073709551616 := by omega
theorem hi_all (a b : Int) : (a / 4294967296) * (b / 4294967296) * 18446744073709551616 + ((a / 4294967296) * (b % 4294967296) + (a % 4294967296) * (b / 4294967296)) * 4294967296 + (a % 4294967296) * (b % 4294967296) = a * b := by
  have ea : a = 4294967296 * (a / 4294967296) + a % 4294967296 := by omega
  have eb : b = 4294967296 * (b / 4294967296) + b % 4294967296 := by omega
  generalize a / 4294967296 = x at *
  generalize a % 4294967296 = y at *
  generalize b / 4294967296 = u at *
  generalize b % 4294967296 = v at *
  subst ea eb
  have : (18446744073709551616 : Int) = 4294967296 * 4294967296 := rfl
  rw [this]
  simp only [Int.add_mul, Int.mul_add, Int.mul_assoc, Int.mul_left_comm, Int.mul_comm]
  omega
theorem hi_eq (H n1 n2 m1 m2 : Int) (h1 : (n1 - m1) % 18446744073709551616 = 0) (h2 : (n2 - m2) % 18446744073709551616 = 0) : wrap64 ((((H - m1) % 18446744073709551616) - m2) % 18446744073709551616) = wrap64 (wrap64 (wrap64 H - n1) - n2) := by
  unfold wrap64
  omega
theorem hi_eq1 (H n1 m1 : Int) (h1 : (n1 - m1) % 18446744073709551616 = 0) : wrap64 ((H - m1) % 18446744073709551616) = wrap64 (wrap64 (wrap64 H - n1) - 0) := by
  unfold wrap64
  omega
theorem hi_eq2 (H n2 m2 : Int) (h2 : (n2 - m2) % 18446744073709551616 = 0) : wrap64 ((H - m2) % 18446744073709551616) = wrap64 (wrap64 (wrap64 H - 0) - n2) := by
  unfold wrap64
  omega
theorem hi_eq0 (H : Int) : wrap64 H = wrap64 (wrap64 (wrap64 H - 0) - 0) := by
  unfold wrap64
  omega
theorem ret_two {a b : Int} {v : Value} (h : a = b) : Ending.returned (.tuple #[.int .i64 a, v]) = .returned (.tuple #[.int .i64 b, v]) := by rw [h]
theorem U_sub (a : Int) : (a - U a) % 18446744073709551616 = 0 := by unfold U; omega
set_option maxRecDepth 20000 in
theorem high8 (a b : Int) (w : World) : Calls Tryd.prog 8 #[.int .i64 a, .int .i64 b] w fun e w' => e = .returned (.int .i64 (hiV a b)) ∧ w' = w := by
  obtain ⟨x0, x1⟩ := U_bd a
  obtain ⟨y0, y1⟩ := U_bd b
  have hUa := wrap_U a
  have hUb := wrap_U b
  have wA : ∀ z, IntKind.u64.wrap z = z % 18446744073709551616 := wrapU
  have hA : bits .and .u64 (U a) 4294967295 = U a % 4294967296 := lo32 x0 x1
  have hB : bits .and .u64 (U b) 4294967295 = U b % 4294967296 := lo32 y0 y1
  have X := hi_all (U a) (U b)
  have P := mul_lt (x := U a % 4294967296) (y := U b % 4294967296) (by omega) (by omega) (by omega) (by omega)
  have Q := mul_lt (x := U a / 4294967296) (y := U b % 4294967296) (by omega) (by omega) (by omega) (by omega)
  have R := mul_lt (x := U a % 4294967296) (y := U b / 4294967296) (by omega) (by omega) (by omega) (by omega)
  have S := mul_lt (x := U a / 4294967296) (y := U b / 4294967296) (by omega) (by omega) (by omega) (by omega)
  have HV : Hid (hiV a b = wrap64 (wrap64 (wrap64 (U a * U b / 18446744073709551616) - ngV a b) - ngV b a)) := rfl
  have HSa : Hid ((a - U a) % 18446744073709551616 = 0) := U_sub a
  have HSb : Hid ((b - U b) % 18446744073709551616 = 0) := U_sub b
  generalize hiV a b = HI at *
  generalize hx : U a = A at *
  generalize hy : U b = B at *
  generalize hx0 : A % 4294967296 = x0 at *
  generalize hx1 : A / 4294967296 = x1 at *
  generalize hy0 : B % 4294967296 = y0 at *
  generalize hy1 : B / 4294967296 = y1 at *
  generalize hp : x0 * y0 = p at *
  generalize hq : x1 * y0 = q at *
  generalize hr : x0 * y1 = r at *
  generalize hs : x1 * y1 = s at *
  have T : bits .and .u64 (q + p / 4294967296) 4294967295 = (q + p / 4294967296) % 4294967296 := lo32 (by omega) (by omega)
  have HX : Hid (s * 18446744073709551616 + (q + r) * 4294967296 + p = A * B) := X
  clear X wA
  by_cases ha : a < 0
  · have e1 : ngV a b = b := if_pos ha
    by_cases hb : b < 0
    · have e2 : ngV b a = a := if_pos hb
      have HV' : Hid (HI = wrap64 (wrap64 (wrap64 (A * B / 18446744073709551616) - b) - a)) := by
        have t := HV.out
        rw [e1, e2] at t
        exact t
      clear e1 e2 HV
      go_enter Tryd.func8, Tryd.ntmps8
      go_wp2
      go_ret
      exact ⟨ret_int (by rw [hi_sum, HX.out, HV'.out, wrapU, wrapU]; exact hi_eq _ _ _ _ _ HSb.out HSa.out), rfl⟩
    · have e2 : ngV b a = 0 := if_neg hb
      have HV' : Hid (HI = wrap64 (wrap64 (wrap64 (A * B / 18446744073709551616) - b) - 0)) := by
        have t := HV.out
        rw [e1, e2] at t
        exact t
      clear e1 e2 HV
      go_enter Tryd.func8, Tryd.ntmps8
      go_wp2
      go_ret
      exact ⟨ret_int (by rw [hi_sum, HX.out, HV'.out, wrapU]; exact hi_eq1 _ _ _ HSb.out), rfl⟩
  · have e1 : ngV a b = 0 := if_neg ha
    by_cases hb : b < 0
    · have e2 : ngV b a = a := if_pos hb
      have HV' : Hid (HI = wrap64 (wrap64 (wrap64 (A * B / 18446744073709551616) - 0) - a)) := by
        have t := HV.out
        rw [e1, e2] at t
        exact t
      clear e1 e2 HV
      go_enter Tryd.func8, Tryd.ntmps8
      go_wp2
      go_ret
      exact ⟨ret_int (by rw [hi_sum, HX.out, HV'.out, wrapU]; exact hi_eq2 _ _ _ HSa.out), rfl⟩
    · have e2 : ngV b a = 0 := if_neg hb
      have HV' : Hid (HI = wrap64 (wrap64 (wrap64 (A * B / 18446744073709551616) - 0) - 0)) := by
        have t := HV.out
        rw [e1, e2] at t
        exact t
      clear e1 e2 HV
      go_enter Tryd.func8, Tryd.ntmps8
      go_wp2
      go_ret
      exact ⟨ret_int (by rw [hi_sum, HX.out, HV'.out]; exact hi_eq0 _), rfl⟩
/-- A number that is shifted up, without its sign first. -/
theorem sll_eq (a : Int) (p : Int) : wrap64 (U a * p % 18446744073709551616) = wrap64 (a * p) := by
  have e : U a * p % 18446744073709551616 = a * p % 18446744073709551616 := by
    rw [Int.mul_emod, show U a % 18446744073709551616 = a % 18446744073709551616 by unfold U; omega, ← Int.mul_emod]
  rw [e]
  unfold wrap64
  omega
theorem sh_eq (b : Int) : bits .and .u64 (U b) 63 = ((shN b : Nat) : Int) := by
  rw [lo6 (U_bd b).1 (U_bd b).2]
  unfold shN U
  omega
theorem quo_least : quoV (-9223372036854775808) (-1) = -9223372036854775808 := by
  unfold quoV wrap64
  decide
theorem rem_least : remV (-9223372036854775808) (-1) = 0 := by
  unfold remV
  decide
theorem r_add (a b : Int) (w : World) : Calls Tryd.prog 5 #[.string ⟨#[97, 100, 100]⟩, .int .i64 a, .int .i64 b] w fun e w' => e = .returned (.tuple #[.int .i64 (wrap64 (a + b)), .bool true]) ∧ w' = w := by
  go_enter Tryd.func5, Tryd.ntmps5
  go_wp2
  go_ret2
  exact ⟨rfl, rfl⟩
theorem r_sub (a b : Int) (w : World) : Calls Tryd.prog 5 #[.string ⟨#[115, 117, 98]⟩, .int .i64 a, .int .i64 b] w fun e w' => e = .returned (.tuple #[.int .i64 (wrap64 (a - b)), .bool true]) ∧ w' = w := by
  go_enter Tryd.func5, Tryd.ntmps5
  go_wp2
  go_ret2
  exact ⟨rfl, rfl⟩
theorem r_mul (a b : Int) (w : World) : Calls Tryd.prog 5 #[.string ⟨#[109, 117, 108]⟩, .int .i64 a, .int .i64 b] w fun e w' => e = .returned (.tuple #[.int .i64 (wrap64 (a * b)), .bool true]) ∧ w' = w := by
  go_enter Tryd.func5, Tryd.ntmps5
  go_wp2
  go_ret2
  exact ⟨rfl, rfl⟩
theorem r_and (a b : Int) (w : World) : Calls Tryd.prog 5 #[.string ⟨#[97, 110, 100]⟩, .int .i64 a, .int .i64 b] w fun e w' => e = .returned (.tuple #[.int .i64 (bits .and .i64 a b), .bool true]) ∧ w' = w := by
  go_enter Tryd.func5, Tryd.ntmps5
  go_wp2
  go_ret2
  exact ⟨rfl, rfl⟩
theorem r_or (a b : Int) (w : World) : Calls Tryd.prog 5 #[.string ⟨#[111, 114]⟩, .int .i64 a, .int .i64 b] w fun e w' => e = .returned (.tuple #[.int .i64 (bits .or .i64 a b), .bool true]) ∧ w' = w := by
  go_enter Tryd.func5, Tryd.ntmps5
  go_wp2
  go_ret2
  exact ⟨rfl, rfl⟩
theorem r_xor (a b : Int) (w : World) : Calls Tryd.prog 5 #[.string ⟨#[120, 111, 114]⟩, .int .i64 a, .int .i64 b] w fun e w' => e = .returned (.tuple #[.int .i64 (bits .xor .i64 a b), .bool true]) ∧ w' = w := by
  go_enter Tryd.func5, Tryd.ntmps5
  go_wp2
  go_ret2
  exact ⟨rfl, rfl⟩
theorem r_mulh (a b : Int) (w : World) : Calls Tryd.prog 5 #[.string ⟨#[109, 117, 108, 104]⟩, .int .i64 a, .int .i64 b] w fun e w' => e = .returned (.tuple #[.int .i64 (hiV a b), .bool true]) ∧ w' = w := by
  have hH := high8 a b
  go_enter Tryd.func5, Tryd.ntmps5
  go_wp2_with (first | (go_at_call 8; refine (hH _).mono ?_; rintro e w' ⟨rfl, rfl⟩))
  go_ret2
  exact ⟨rfl, rfl⟩
theorem r_div (a b : Int) (w : World) : Calls Tryd.prog 5 #[.string ⟨#[100, 105, 118]⟩, .int .i64 a, .int .i64 b] w fun e w' => e = .returned (.tuple #[.int .i64 (quoV a b), .bool true]) ∧ w' = w := by
  by_cases h : b = 0
  · subst h
    go_enter Tryd.func5, Tryd.ntmps5
    go_wp2
    go_ret2
    exact ⟨rfl, rfl⟩
  · by_cases hl : a = -9223372036854775808
    · by_cases hm : b = -1
      · subst hl hm
        rw [quo_least]
        go_enter Tryd.func5, Tryd.ntmps5
        go_wp2
        go_ret2
        exact ⟨rfl, rfl⟩
      · have HR : Hid (quoV a b = wrap64 (a.tdiv b)) := if_neg h
        generalize quoV a b = R at *
        have h1 : (b == 0) = false := by simp; omega
        have h2 : (a == -9223372036854775808) = true := by simp; omega
        have h3 : (b == -1) = false := by simp; omega
        clear hl
        go_enter Tryd.func5, Tryd.ntmps5
        go_wp2
        go_ret2
        exact ⟨ret_two HR.out.symm, rfl⟩
    · have HR : Hid (quoV a b = wrap64 (a.tdiv b)) := if_neg h
      generalize quoV a b = R at *
      have h1 : (b == 0) = false := by simp; omega
      have h2 : (a == -9223372036854775808) = false := by simp; omega
      go_enter Tryd.func5, Tryd.ntmps5
      go_wp2
      go_ret2
      exact ⟨ret_two HR.out.symm, rfl⟩
theorem r_rem (a b : Int) (w : World) : Calls Tryd.prog 5 #[.string ⟨#[114, 101, 109]⟩, .int .i64 a, .int .i64 b] w fun e w' => e = .returned (.tuple #[.int .i64 (remV a b), .bool true]) ∧ w' = w := by
  by_cases h : b = 0
  · subst h
    go_enter Tryd.func5, Tryd.ntmps5
    go_wp2
    go_ret2
    exact ⟨rfl, rfl⟩
  · by_cases hl : a = -9223372036854775808
    · by_cases hm : b = -1
      · subst hl hm
        rw [rem_least]
        go_enter Tryd.func5, Tryd.ntmps5
        go_wp2
        go_ret2
        exact ⟨rfl, rfl⟩
      · have HR : Hid (remV a b = a.tmod b) := if_neg h
        generalize remV a b = R at *
        have h1 : (b == 0) = false := by simp; omega
        have h2 : (a == -9223372036854775808) = true := by simp; omega
        have h3 : (b == -1) = false := by simp; omega
        clear hl
        go_enter Tryd.func5, Tryd.ntmps5
        go_wp2
        go_ret2
        exact ⟨ret_two HR.out.symm, rfl⟩
    · have HR : Hid (remV a b = a.tmod b) := if_neg h
      generalize remV a b = R at *
      have h1 : (b == 0) = false := by simp; omega
      have h2 : (a == -9223372036854775808) = false := by simp; omega
      go_enter Tryd.func5, Tryd.ntmps5
      go_wp2
      go_ret2
      exact ⟨ret_two HR.out.symm, rfl⟩
theorem r_sll (a b : Int) (w : World) : Calls Tryd.prog 5 #[.string ⟨#[115, 108, 108]⟩, .int .i64 a, .int .i64 b] w fun e w' => e = .returned (.tuple #[.int .i64 (sllV a b), .bool true]) ∧ w' = w := by
  have hA := wrap_U a
  have hB := wrap_U b
  have h6 := sh_eq b
  have hn := shN_lt b
  have hu := U_bd a
  have HV : Hid (sllV a b = wrap64 (a * 2 ^ shN b)) := rfl
  have HS : Hid (∀ p, wrap64 (U a * p % 18446744073709551616) = wrap64 (a * p)) := sll_eq a
  generalize sllV a b = R at *
  generalize shN b = n at *
  generalize U a = A at *
  go_enter Tryd.func5, Tryd.ntmps5
  go_wp2
  go_ret2
  exact ⟨ret_two (by rw [wrapU, HS.out, HV.out]), rfl⟩
theorem r_srl (a b : Int) (w : World) : Calls Tryd.prog 5 #[.string ⟨#[115, 114, 108]⟩, .int .i64 a, .int .i64 b] w fun e w' => e = .returned (.tuple #[.int .i64 (srlV a b), .bool true]) ∧ w' = w := by
  have hA := wrap_U a
  have hB := wrap_U b
  have h6 := sh_eq b
  have hn := shN_lt b
  have hu := U_bd a
  unfold srlV
  generalize shN b = n at *
  generalize U a = A at *
  go_enter Tryd.func5, Tryd.ntmps5
  go_wp2
  go_ret2
  exact ⟨rfl, rfl⟩
theorem r_sra (a b : Int) (w : World) : Calls Tryd.prog 5 #[.string ⟨#[115, 114, 97]⟩, .int .i64 a, .int .i64 b] w fun e w' => e = .returned (.tuple #[.int .i64 (sraV a b), .bool true]) ∧ w' = w := by
  have hB := wrap_U b
  have h6 := sh_eq b
  have hn := shN_lt b
  unfold sraV
  generalize shN b = n at *
  go_enter Tryd.func5, Tryd.ntmps5
  go_wp2
  go_ret2
  exact ⟨rfl, rfl⟩
theorem r_slt (a b : Int) (w : World) : Calls Tryd.prog 5 #[.string ⟨#[115, 108, 116]⟩, .int .i64 a, .int .i64 b] w fun e w' => e = .returned (.tuple #[.int .i64 (sltV a b), .bool true]) ∧ w' = w := by
  have hT := truth9
  have hA := wrap_U a
  have hB := wrap_U b
  have h6 := sh_eq b
  by_cases h : a < b
  · have HV : Hid ((1 : Int) = sltV a b) := (if_pos h).symm
    go_enter Tryd.func5, Tryd.ntmps5
    go_wp2_with (first | (go_at_call 9; refine (hT _ _).mono ?_; rintro e w' ⟨rfl, rfl⟩))
    go_ret2
    exact ⟨ret_two HV.out, rfl⟩
  · have HV : Hid ((0 : Int) = sltV a b) := (if_neg h).symm
    go_enter Tryd.func5, Tryd.ntmps5
    go_wp2_with (first | (go_at_call 9; refine (hT _ _).mono ?_; rintro e w' ⟨rfl, rfl⟩))
    go_ret2
    exact ⟨ret_two HV.out, rfl⟩
theorem r_sltu (a b : Int) (w : World) : Calls Tryd.prog 5 #[.string ⟨#[115, 108, 116, 117]⟩, .int .i64 a, .int .i64 b] w fun e w' => e = .returned (.tuple #[.int .i64 (sltuV a b), .bool true]) ∧ w' = w := by
  have hT := truth9
  have hA := wrap_U a
  have hB := wrap_U b
  have h6 := sh_eq b
  by_cases h : U a < U b
  · have HV : Hid ((1 : Int) = sltuV a b) := (if_pos h).symm
    go_enter Tryd.func5, Tryd.ntmps5
    go_wp2_with (first | (go_at_call 9; refine (hT _ _).mono ?_; rintro e w' ⟨rfl, rfl⟩))
    go_ret2
    exact ⟨ret_two HV.out, rfl⟩
  · have HV : Hid ((0 : Int) = sltuV a b) := (if_neg h).symm
    go_enter Tryd.func5, Tryd.ntmps5
    go_wp2_with (first | (go_at_call 9; refine (hT _ _).mono ?_; rintro e w' ⟨rfl, rfl⟩))
    go_ret2
    exact ⟨ret_two HV.out, rfl⟩
theorem r_other (s : ByteArray) (a b : Int) (w : World) (h0 : (s.toList == [97, 100, 100]) = false) (h1 : (s.toList == [115, 117, 98]) = false) (h2 : (s.toList == [109, 117, 108]) = false) (h3 : (s.toList == [109, 117, 108, 104]) = false) (h4 : (s.toList == [100, 105, 118]) = false) (h5 : (s.toList == [114, 101, 109]) = false) (h6 : (s.toList == [97, 110, 100]) = false) (h7 : (s.toList == [111, 114]) = false) (h8 : (s.toList == [120, 111, 114]) = false) (h9 : (s.toList == [115, 108, 108]) = false) (h10 : (s.toList == [115, 114, 108]) = false) (h11 : (s.toList == [115, 114, 97]) = false) (h12 : (s.toList == [115, 108, 116]) = false) (h13 : (s.toList == [115, 108, 116, 117]) = false) : Calls Tryd.prog 5 #[.string s, .int .i64 a, .int .i64 b] w fun e w' => e = .returned (.tuple #[.int .i64 0, .bool false]) ∧ w' = w := by
  go_enter Tryd.func5, Tryd.ntmps5
  go_wp2
  go_ret2
  exact ⟨rfl, rfl⟩
end Go.Proofs.YthkkoppnenfnfaaDoor
