/- What the operations make of two numbers: the program's. -/
import Derived.Test.YthkkoppnenfnfaaDoorG0
namespace Go.Proofs.YthkkoppnenfnfaaDoor
open Go.RowKit Go.Shelf
theorem wrapU (z : Int) : IntKind.u64.wrap z = z % 18446744073709551616 := by
  simp [IntKind.wrap, IntKind.signed, IntKind.bits]
theorem mask64 (k : Nat) (msk p a : Int) (hp : p = ((2 ^ k : Nat) : Int)) (hm : msk = p - 1) (hk : k ≤ 64) (h0 : 0 ≤ a) (h1 : a < 18446744073709551616) : bits .and .u64 a msk = a % p := by
  have e2 : 0 < 2 ^ k := Nat.two_pow_pos k
  have e3 : 2 ^ k ≤ 2 ^ 64 := Nat.pow_le_pow_right (by omega) hk
  subst hm
  rw [u64_and a (p - 1) h0 (by omega) (by omega) (by omega)]
  have e : (p - 1).toNat = 2 ^ k - 1 := by omega
  rw [e, Nat.and_two_pow_sub_one_eq_mod, Int.natCast_emod, Int.toNat_of_nonneg h0, hp]
theorem lo32 {a : Int} (h0 : 0 ≤ a) (h1 : a < 18446744073709551616) : bits .and .u64 a 4294967295 = a % 4294967296 := mask64 32 _ _ a rfl rfl (by omega) h0 h1
theorem lo6 {a : Int} (h0 : 0 ≤ a) (h1 : a < 18446744073709551616) : bits .and .u64 a 63 = a % 64 := mask64 6 _ _ a rfl rfl (by omega) h0 h1
/-- By how many bits a number shifts; a number without its sign. -/
def shN (b : Int) : Nat := (b % 18446744073709551616 % 64).toNat
def U (a : Int) : Int := a % 18446744073709551616
theorem U_bd (a : Int) : 0 ≤ U a ∧ U a < 18446744073709551616 := by unfold U; omega
theorem wrap_U (a : Int) : IntKind.u64.wrap a = U a := wrapU a
theorem shN_lt (b : Int) : shN b < 64 := by unfold shN; omega
def quoV (a b : Int) : Int := if b = 0 then -1 else wrap64 (a.tdiv b)
def remV (a b : Int) : Int := if b = 0 then a else a.tmod b
def sllV (a b : Int) : Int := wrap64 (a * 2 ^ shN b)
def srlV (a b : Int) : Int := wrap64 (U a / 2 ^ shN b)
def sraV (a b : Int) : Int := a / 2 ^ shN b
def sltV (a b : Int) : Int := if a < b then 1 else 0
def sltuV (a b : Int) : Int := if U a < U b then 1 else 0
def ngV (a b : Int) : Int := if a < 0 then b else 0
def hiV (a b : Int) : Int := wrap64 (wrap64 (wrap64 (U a * U b / 18446744073709551616) - ngV a b) - ngV b a)
set_option maxHeartbeats 1000000
theorem add12 (a b : Int) (w : World)  : Calls Tryd.prog 12 #[.int .i64 a, .int .i64 b] w fun e w' => e = .returned (.int .i64 (wrap64 (a + b))) ∧ w' = w := by
  go_enter Tryd.func12, Tryd.ntmps12
  go_wp2
  go_ret
  exact ⟨rfl, rfl⟩
theorem sub13 (a b : Int) (w : World)  : Calls Tryd.prog 13 #[.int .i64 a, .int .i64 b] w fun e w' => e = .returned (.int .i64 (wrap64 (a - b))) ∧ w' = w := by
  go_enter Tryd.func13, Tryd.ntmps13
  go_wp2
  go_ret
  exact ⟨rfl, rfl⟩
theorem mul14 (a b : Int) (w : World)  : Calls Tryd.prog 14 #[.int .i64 a, .int .i64 b] w fun e w' => e = .returned (.int .i64 (wrap64 (a * b))) ∧ w' = w := by
  go_enter Tryd.func14, Tryd.ntmps14
  go_wp2
  go_ret
  exact ⟨rfl, rfl⟩
theorem and18 (a b : Int) (w : World)  : Calls Tryd.prog 18 #[.int .i64 a, .int .i64 b] w fun e w' => e = .returned (.int .i64 (bits .and .i64 a b)) ∧ w' = w := by
  go_enter Tryd.func18, Tryd.ntmps18
  go_wp2
  go_ret
  exact ⟨rfl, rfl⟩
theorem or19 (a b : Int) (w : World)  : Calls Tryd.prog 19 #[.int .i64 a, .int .i64 b] w fun e w' => e = .returned (.int .i64 (bits .or .i64 a b)) ∧ w' = w := by
  go_enter Tryd.func19, Tryd.ntmps19
  go_wp2
  go_ret
  exact ⟨rfl, rfl⟩
theorem xor20 (a b : Int) (w : World)  : Calls Tryd.prog 20 #[.int .i64 a, .int .i64 b] w fun e w' => e = .returned (.int .i64 (bits .xor .i64 a b)) ∧ w' = w := by
  go_enter Tryd.func20, Tryd.ntmps20
  go_wp2
  go_ret
  exact ⟨rfl, rfl⟩
theorem quo16 (a b : Int) (w : World)  : Calls Tryd.prog 16 #[.int .i64 a, .int .i64 b] w fun e w' => e = .returned (.int .i64 (quoV a b)) ∧ w' = w := by
  by_cases h : b = 0
  · subst h
    go_enter Tryd.func16, Tryd.ntmps16
    go_wp2
    go_ret
    exact ⟨rfl, rfl⟩
  · have HR : Hid (quoV a b = wrap64 (a.tdiv b)) := if_neg h
    generalize quoV a b = R at *
    go_enter Tryd.func16, Tryd.ntmps16
    go_wp2
    go_ret
    exact ⟨ret_int HR.out.symm, rfl⟩
theorem rem17 (a b : Int) (w : World)  : Calls Tryd.prog 17 #[.int .i64 a, .int .i64 b] w fun e w' => e = .returned (.int .i64 (remV a b)) ∧ w' = w := by
  by_cases h : b = 0
  · subst h
    go_enter Tryd.func17, Tryd.ntmps17
    go_wp2
    go_ret
    exact ⟨rfl, rfl⟩
  · have HR : Hid (remV a b = a.tmod b) := if_neg h
    generalize remV a b = R at *
    go_enter Tryd.func17, Tryd.ntmps17
    go_wp2
    go_ret
    exact ⟨ret_int HR.out.symm, rfl⟩
theorem shift22 (b : Int) (w : World) : Calls Tryd.prog 22 #[.int .i64 b] w fun e w' => e = .returned (.int .u64 (shN b : Nat)) ∧ w' = w := by
  have HU : Hid ((IntKind.u64.wrap b).tmod 64 = ((shN b : Nat) : Int)) := by
    show _ = _
    rw [wrapU, Int.tmod_eq_emod_of_nonneg (by omega)]
    unfold shN
    omega
  go_enter Tryd.func22, Tryd.ntmps22
  go_wp2
  go_ret
  exact ⟨ret_int HU.out, rfl⟩
theorem sll21 (a b : Int) (w : World)  : Calls Tryd.prog 21 #[.int .i64 a, .int .i64 b] w fun e w' => e = .returned (.int .i64 (sllV a b)) ∧ w' = w := by
  have hl := shN_lt b
  have hS := shift22 b
  have hU := wrap_U a
  have hu := U_bd a
  unfold sllV
  generalize shN b = n at *
  generalize U a = A at *
  go_enter Tryd.func21, Tryd.ntmps21
  go_wp2_with (first | (go_at_call 22; refine (hS _).mono ?_; rintro e w' ⟨rfl, rfl⟩))
  go_ret
  exact ⟨rfl, rfl⟩
theorem srl23 (a b : Int) (w : World)  : Calls Tryd.prog 23 #[.int .i64 a, .int .i64 b] w fun e w' => e = .returned (.int .i64 (srlV a b)) ∧ w' = w := by
  have hl := shN_lt b
  have hS := shift22 b
  have hU := wrap_U a
  have hu := U_bd a
  unfold srlV
  generalize shN b = n at *
  generalize U a = A at *
  go_enter Tryd.func23, Tryd.ntmps23
  go_wp2_with (first | (go_at_call 22; refine (hS _).mono ?_; rintro e w' ⟨rfl, rfl⟩))
  go_ret
  exact ⟨rfl, rfl⟩
theorem sra24 (a b : Int) (w : World)  : Calls Tryd.prog 24 #[.int .i64 a, .int .i64 b] w fun e w' => e = .returned (.int .i64 (sraV a b)) ∧ w' = w := by
  have hl := shN_lt b
  have hS := shift22 b
  have hU := wrap_U a
  have hu := U_bd a
  unfold sraV
  generalize shN b = n at *
  generalize U a = A at *
  go_enter Tryd.func24, Tryd.ntmps24
  go_wp2_with (first | (go_at_call 22; refine (hS _).mono ?_; rintro e w' ⟨rfl, rfl⟩))
  go_ret
  exact ⟨rfl, rfl⟩
theorem truth26 (v : Bool) (w : World) : Calls Tryd.prog 26 #[.bool v] w fun e w' => e = .returned (.int .i64 (if v then 1 else 0)) ∧ w' = w := by
  cases v
  all_goals
    go_enter Tryd.func26, Tryd.ntmps26
    go_wp2
    go_ret
    exact ⟨rfl, rfl⟩
theorem truth9 (v : Bool) (w : World) : Calls Tryd.prog 9 #[.bool v] w fun e w' => e = .returned (.int .i64 (if v then 1 else 0)) ∧ w' = w := by
  cases v
  all_goals
    go_enter Tryd.func9, Tryd.ntmps9
    go_wp2
    go_ret
    exact ⟨rfl, rfl⟩
theorem slt25 (a b : Int) (w : World) : Calls Tryd.prog 25 #[.int .i64 a, .int .i64 b] w fun e w' => e = .returned (.int .i64 (sltV a b)) ∧ w' = w := by
  have hT := truth26
  by_cases h : a < b
  · have HV : Hid ((1 : Int) = sltV a b) := (if_pos h).symm
    go_enter Tryd.func25, Tryd.ntmps25
    go_wp2_with (first | (go_at_call 26; refine (hT _ _).mono ?_; rintro e w' ⟨rfl, rfl⟩))
    go_ret
    exact ⟨ret_int HV.out, rfl⟩
  · have HV : Hid ((0 : Int) = sltV a b) := (if_neg h).symm
    go_enter Tryd.func25, Tryd.ntmps25
    go_wp2_with (first | (go_at_call 26; refine (hT _ _).mono ?_; rintro e w' ⟨rfl, rfl⟩))
    go_ret
    exact ⟨ret_int HV.out, rfl⟩
theorem sltu27 (a b : Int) (w : World) : Calls Tryd.prog 27 #[.int .i64 a, .int .i64 b] w fun e w' => e = .returned (.int .i64 (sltuV a b)) ∧ w' = w := by
  have hT := truth26
  have hA := wrap_U a
  have hB := wrap_U b
  by_cases h : U a < U b
  · have HV : Hid ((1 : Int) = sltuV a b) := (if_pos h).symm
    go_enter Tryd.func27, Tryd.ntmps27
    go_wp2_with (first | (go_at_call 26; refine (hT _ _).mono ?_; rintro e w' ⟨rfl, rfl⟩))
    go_ret
    exact ⟨ret_int HV.out, rfl⟩
  · have HV : Hid ((0 : Int) = sltuV a b) := (if_neg h).symm
    go_enter Tryd.func27, Tryd.ntmps27
    go_wp2_with (first | (go_at_call 26; refine (hT _ _).mono ?_; rintro e w' ⟨rfl, rfl⟩))
    go_ret
    exact ⟨ret_int HV.out, rfl⟩
theorem negative31 (a b : Int) (w : World) : Calls Tryd.prog 31 #[.int .i64 a, .int .i64 b] w fun e w' => e = .returned (.int .i64 (ngV a b)) ∧ w' = w := by
  unfold ngV
  by_cases h : a < 0
  · rw [if_pos h]
    go_enter Tryd.func31, Tryd.ntmps31
    go_wp2
    go_ret
    exact ⟨rfl, rfl⟩
  · rw [if_neg h]
    go_enter Tryd.func31, Tryd.ntmps31
    go_wp2
    go_ret
    exact ⟨rfl, rfl⟩
set_option maxRecDepth 20000 in
theorem high15 (a b : Int) (w : World) : Calls Tryd.prog 15 #[.int .i64 a, .int .i64 b] w fun e w' => e = .returned (.int .i64 (hiV a b)) ∧ w' = w := by
  have hM : ∀ w, Calls Tryd.prog 30 #[.int .u64 (U a), .int .u64 (U b)] w fun e w' => e = .returned (.tuple #[.int .u64 (U a * U b / 18446744073709551616), .int .u64 (U a * U b % 18446744073709551616)]) ∧ w' = w := fun w => by
    have t := Tryd.bits_Mul64 (U a).toNat (U b).toNat (by have := U_bd a; omega) (by have := U_bd b; omega) w
    rw [Int.toNat_of_nonneg (U_bd a).1, Int.toNat_of_nonneg (U_bd b).1, Int.natCast_ediv, Int.natCast_emod, Int.natCast_mul, Int.toNat_of_nonneg (U_bd a).1, Int.toNat_of_nonneg (U_bd b).1] at t
    exact t
  have hA := wrap_U a
  have hB := wrap_U b
  have hN := negative31 a b
  have hN' := negative31 b a
  unfold hiV
  generalize U a = A at *
  generalize U b = B at *
  generalize A * B / 18446744073709551616 = H at *
  generalize ngV a b = n1 at *
  generalize ngV b a = n2 at *
  go_enter Tryd.func15, Tryd.ntmps15
  go_wp2_with (first | (go_at_call 30; refine (hM _).mono ?_; rintro e w' ⟨rfl, rfl⟩) | (go_at_call 31; (first | (with_reducible refine (hN _).mono ?_) | (with_reducible refine (hN' _).mono ?_)); rintro e w' ⟨rfl, rfl⟩))
  go_ret
  exact ⟨rfl, rfl⟩
end Go.Proofs.YthkkoppnenfnfaaDoor
