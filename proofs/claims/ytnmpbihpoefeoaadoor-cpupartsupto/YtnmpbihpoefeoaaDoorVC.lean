/- Operations of two numbers: the document's of 64 bits. Operations of two numbers: the document's Alu. Operations of two numbers: the document's Alu. Operations of two numbers: the document's Alu, whole. -/
import Derived.Test.YtnmpbihpoefeoaaDoorVB
namespace Go.Proofs.YtnmpbihpoefeoaaDoor
section
open Go.RowKit Go.Shelf
theorem A_D (op a b : Int) (h : 54 ≤ op) : A64 op a b = D op a b := by
  unfold A64
  repeat rw [if_neg (by omega)]
theorem hi_range {a b : Int} (a0 : 0 ≤ a) (a1 : a < 18446744073709551616) (b0 : 0 ≤ b) (b1 : b < 18446744073709551616) : 0 ≤ hi a b ∧ hi a b < 18446744073709551616 := by
  have t : a * b ≤ 18446744073709551615 * 18446744073709551615 := Int.mul_le_mul (by omega) (by omega) b0 (by omega)
  have u : 0 ≤ a * b := Int.mul_nonneg a0 b0
  unfold hi
  omega
theorem wrap_same {x : Int} (h : 0 ≤ x ∧ x < 18446744073709551616) : IntKind.u64.wrap x = x := by rw [wrapU]; omega
theorem high39' (a b : Int) (a0 : 0 ≤ a) (a1 : a < 18446744073709551616) (b0 : 0 ≤ b) (b1 : b < 18446744073709551616) (w : World) : Calls Tryd.prog 39 #[.int .u64 a, .int .u64 b] w fun e w' => e = .returned (.int .u64 (hi a b)) ∧ w' = w := high39 a b a0 a1 b0 b1 w
theorem high48' (a b : Int) (a0 : 0 ≤ a) (a1 : a < 18446744073709551616) (b0 : 0 ≤ b) (b1 : b < 18446744073709551616) (w : World) : Calls Tryd.prog 48 #[.int .u64 a, .int .u64 b] w fun e w' => e = .returned (.int .u64 (hi a b)) ∧ w' = w := high48 a b a0 a1 b0 b1 w
set_option maxRecDepth 20000 in
set_option maxHeartbeats 4000000 in
theorem alu24_0 (op a b : Int) (h : op = 35 ∨ op = 36 ∨ op = 37 ∨ op = 38 ∨ op = 39 ∨ op = 40) (_a0 : 0 ≤ a) (_a1 : a < 18446744073709551616) (b0 : 0 ≤ b) (b1 : b < 18446744073709551616) (w : World) : Calls Tryd.prog 24 #[.int .i64 op, .int .u64 a, .int .u64 b] w fun e w' => e = .returned (.int .u64 (A64 op a b)) ∧ w' = w := by
  have n41 : (op == 41) = false := by rcases h with rfl | rfl | rfl | rfl | rfl | rfl <;> rfl
  have n42 : (op == 42) = false := by rcases h with rfl | rfl | rfl | rfl | rfl | rfl <;> rfl
  have n43 : (op == 43) = false := by rcases h with rfl | rfl | rfl | rfl | rfl | rfl <;> rfl
  have n44 : (op == 44) = false := by rcases h with rfl | rfl | rfl | rfl | rfl | rfl <;> rfl
  have n50 : (op == 50) = false := by rcases h with rfl | rfl | rfl | rfl | rfl | rfl <;> rfl
  have n53 : (op == 53) = false := by rcases h with rfl | rfl | rfl | rfl | rfl | rfl <;> rfl
  have n52 : (op == 52) = false := by rcases h with rfl | rfl | rfl | rfl | rfl | rfl <;> rfl
  have n51 : (op == 51) = false := by rcases h with rfl | rfl | rfl | rfl | rfl | rfl <;> rfl
  have hl := lo6 b0 b1
  have HO : Hid (op = 35 ∨ op = 36 ∨ op = 37 ∨ op = 38 ∨ op = 39 ∨ op = 40) := h
  clear h
  go_enter Tryd.func24, Tryd.ntmps24
  go_wp2_with (first | (go_at_call 38; refine (truth38' _ _).mono ?_; rintro e w' ⟨rfl, rfl⟩) | (go_at_call 40; exfalso; rcases HO.out with rfl | rfl | rfl | rfl | rfl | rfl <;> first | exact beq_no ‹((35 : Int) == 35) = false› | exact beq_no ‹((36 : Int) == 36) = false› | exact beq_no ‹((37 : Int) == 37) = false› | exact beq_no ‹((38 : Int) == 38) = false› | exact beq_no ‹((39 : Int) == 39) = false› | exact beq_no ‹((40 : Int) == 40) = false›) | fail)
  all_goals go_ret
  all_goals (have hh := eq_of_beq ‹(op == _) = true›; subst hh; first | rw [A_35] | rw [A_36] | rw [A_37] | rw [A_38] | rw [A_39] | rw [A_40])
  all_goals exact ⟨rfl, rfl⟩
set_option maxRecDepth 20000 in
set_option maxHeartbeats 4000000 in
theorem alu24_1 (op a b : Int) (h : op = 41 ∨ op = 42 ∨ op = 43 ∨ op = 44 ∨ op = 50 ∨ op = 53) (a0 : 0 ≤ a) (a1 : a < 18446744073709551616) (b0 : 0 ≤ b) (b1 : b < 18446744073709551616) (w : World) : Calls Tryd.prog 24 #[.int .i64 op, .int .u64 a, .int .u64 b] w fun e w' => e = .returned (.int .u64 (A64 op a b)) ∧ w' = w := by
  have n35 : (op == 35) = false := by rcases h with rfl | rfl | rfl | rfl | rfl | rfl <;> rfl
  have n36 : (op == 36) = false := by rcases h with rfl | rfl | rfl | rfl | rfl | rfl <;> rfl
  have n37 : (op == 37) = false := by rcases h with rfl | rfl | rfl | rfl | rfl | rfl <;> rfl
  have n38 : (op == 38) = false := by rcases h with rfl | rfl | rfl | rfl | rfl | rfl <;> rfl
  have n39 : (op == 39) = false := by rcases h with rfl | rfl | rfl | rfl | rfl | rfl <;> rfl
  have n40 : (op == 40) = false := by rcases h with rfl | rfl | rfl | rfl | rfl | rfl <;> rfl
  have n52 : (op == 52) = false := by rcases h with rfl | rfl | rfl | rfl | rfl | rfl <;> rfl
  have n51 : (op == 51) = false := by rcases h with rfl | rfl | rfl | rfl | rfl | rfl <;> rfl
  have hl := lo6 b0 b1
  have HO : Hid (op = 41 ∨ op = 42 ∨ op = 43 ∨ op = 44 ∨ op = 50 ∨ op = 53) := h
  clear h
  go_enter Tryd.func24, Tryd.ntmps24
  go_wp2_with (first | (go_at_call 38; refine (truth38' _ _).mono ?_; rintro e w' ⟨rfl, rfl⟩) | (go_at_call 39; refine (high39' a b a0 a1 b0 b1 _).mono ?_; rintro e w' ⟨rfl, rfl⟩) | (go_at_call 40; exfalso; rcases HO.out with rfl | rfl | rfl | rfl | rfl | rfl <;> first | exact beq_no ‹((41 : Int) == 41) = false› | exact beq_no ‹((42 : Int) == 42) = false› | exact beq_no ‹((43 : Int) == 43) = false› | exact beq_no ‹((44 : Int) == 44) = false› | exact beq_no ‹((50 : Int) == 50) = false› | exact beq_no ‹((53 : Int) == 53) = false›) | fail)
  all_goals go_ret
  all_goals (have hh := eq_of_beq ‹(op == _) = true›; subst hh; first | rw [A_41] | rw [A_42] | rw [A_43] | rw [A_44] | rw [A_50] | rw [A_53])
  all_goals exact ⟨rfl, rfl⟩
set_option maxRecDepth 20000 in
set_option maxHeartbeats 4000000 in
theorem alu24_d (op a b : Int) (h1 : 54 ≤ op) (h2 : op ≤ 57) (a0 : 0 ≤ a) (a1 : a < 18446744073709551616) (b0 : 0 ≤ b) (b1 : b < 18446744073709551616) (w : World) : Calls Tryd.prog 24 #[.int .i64 op, .int .u64 a, .int .u64 b] w fun e w' => e = .returned (.int .u64 (A64 op a b)) ∧ w' = w := by
  have n35 : (op == 35) = false := by simp; omega
  have n36 : (op == 36) = false := by simp; omega
  have n37 : (op == 37) = false := by simp; omega
  have n38 : (op == 38) = false := by simp; omega
  have n39 : (op == 39) = false := by simp; omega
  have n40 : (op == 40) = false := by simp; omega
  have n41 : (op == 41) = false := by simp; omega
  have n42 : (op == 42) = false := by simp; omega
  have n43 : (op == 43) = false := by simp; omega
  have n44 : (op == 44) = false := by simp; omega
  have n50 : (op == 50) = false := by simp; omega
  have n53 : (op == 53) = false := by simp; omega
  have n52 : (op == 52) = false := by simp; omega
  have n51 : (op == 51) = false := by simp; omega
  rw [A_D op a b h1]
  have HD : Hid (∀ w, Calls Tryd.prog 40 #[.int .i64 op, .int .u64 a, .int .u64 b] w fun e w' => e = .returned (.int .u64 (D op a b)) ∧ w' = w) := div40 op a b h1 h2 a0 a1 b0 b1
  go_enter Tryd.func24, Tryd.ntmps24
  go_wp2_with ((go_at_call 40; refine (HD.out _).mono ?_; rintro e w' ⟨rfl, rfl⟩))
  go_ret
  exact ⟨rfl, rfl⟩
set_option maxRecDepth 20000 in
set_option maxHeartbeats 4000000 in
theorem alu24_52 (a b : Int) (a0 : 0 ≤ a) (a1 : a < 18446744073709551616) (b0 : 0 ≤ b) (b1 : b < 18446744073709551616) (w : World) : Calls Tryd.prog 24 #[.int .i64 52, .int .u64 a, .int .u64 b] w fun e w' => e = .returned (.int .u64 (A64 52 a b)) ∧ w' = w := by
  have hr := hi_range a0 a1 b0 b1
  rw [A_52]
  unfold neg
  by_cases h : wrap64 a < 0
  · rw [if_pos h]
    go_enter Tryd.func24, Tryd.ntmps24
    go_wp2_with ((go_at_call 39; refine (high39' a b a0 a1 b0 b1 _).mono ?_; rintro e w' ⟨rfl, rfl⟩))
    go_ret
    exact ⟨rfl, rfl⟩
  · rw [if_neg h, Int.sub_zero, wrap_same hr]
    go_enter Tryd.func24, Tryd.ntmps24
    go_wp2_with ((go_at_call 39; refine (high39' a b a0 a1 b0 b1 _).mono ?_; rintro e w' ⟨rfl, rfl⟩))
    go_ret
    exact ⟨rfl, rfl⟩
set_option maxRecDepth 20000 in
set_option maxHeartbeats 4000000 in
theorem alu24_51 (a b : Int) (a0 : 0 ≤ a) (a1 : a < 18446744073709551616) (b0 : 0 ≤ b) (b1 : b < 18446744073709551616) (w : World) : Calls Tryd.prog 24 #[.int .i64 51, .int .u64 a, .int .u64 b] w fun e w' => e = .returned (.int .u64 (A64 51 a b)) ∧ w' = w := by
  have hr := hi_range a0 a1 b0 b1
  rw [A_51]
  unfold neg
  by_cases h : wrap64 a < 0
  · by_cases g : wrap64 b < 0
    · rw [if_pos h, if_pos g]
      go_enter Tryd.func24, Tryd.ntmps24
      go_wp2_with ((go_at_call 39; refine (high39' a b a0 a1 b0 b1 _).mono ?_; rintro e w' ⟨rfl, rfl⟩))
      go_ret
      exact ⟨rfl, rfl⟩
    · rw [if_pos h, if_neg g, Int.sub_zero, wrap_same (x := IntKind.u64.wrap (hi a b - b)) (by rw [wrapU]; omega)]
      go_enter Tryd.func24, Tryd.ntmps24
      go_wp2_with ((go_at_call 39; refine (high39' a b a0 a1 b0 b1 _).mono ?_; rintro e w' ⟨rfl, rfl⟩))
      go_ret
      exact ⟨rfl, rfl⟩
  · by_cases g : wrap64 b < 0
    · rw [if_neg h, if_pos g, Int.sub_zero, wrap_same hr]
      go_enter Tryd.func24, Tryd.ntmps24
      go_wp2_with ((go_at_call 39; refine (high39' a b a0 a1 b0 b1 _).mono ?_; rintro e w' ⟨rfl, rfl⟩))
      go_ret
      exact ⟨rfl, rfl⟩
    · rw [if_neg h, if_neg g, Int.sub_zero, Int.sub_zero, wrap_same hr, wrap_same hr]
      go_enter Tryd.func24, Tryd.ntmps24
      go_wp2_with ((go_at_call 39; refine (high39' a b a0 a1 b0 b1 _).mono ?_; rintro e w' ⟨rfl, rfl⟩))
      go_ret
      exact ⟨rfl, rfl⟩
/-- An operation of 64 bits? -/
def isW (op : Int) : Prop := (35 ≤ op ∧ op ≤ 44) ∨ (50 ≤ op ∧ op ≤ 57)
theorem alu24 (op a b : Int) (h : isW op) (a0 : 0 ≤ a) (a1 : a < 18446744073709551616) (b0 : 0 ≤ b) (b1 : b < 18446744073709551616) (w : World) : Calls Tryd.prog 24 #[.int .i64 op, .int .u64 a, .int .u64 b] w fun e w' => e = .returned (.int .u64 (A64 op a b)) ∧ w' = w := by
  unfold isW at h
  by_cases c1 : op ≤ 40
  · exact alu24_0 op a b (by omega) a0 a1 b0 b1 w
  by_cases c2 : 54 ≤ op
  · exact alu24_d op a b c2 (by omega) a0 a1 b0 b1 w
  by_cases c3 : op = 52
  · subst c3; exact alu24_52 a b a0 a1 b0 b1 w
  by_cases c4 : op = 51
  · subst c4; exact alu24_51 a b a0 a1 b0 b1 w
  exact alu24_1 op a b (by omega) a0 a1 b0 b1 w
end
section
open Go.RowKit Go.Shelf
theorem s32_congr {x y : Int} (h : x % 4294967296 = y % 4294967296) : s32 x = s32 y := by rw [← s32_mod x, h, s32_mod]
theorem s32_cong (v : Int) : s32 v % 4294967296 = v % 4294967296 := by unfold s32 wrap32; omega
theorem mod_mod (x : Int) : x % 18446744073709551616 % 4294967296 = x % 4294967296 := by omega
theorem wrap_cong (x : Int) : IntKind.u64.wrap x % 4294967296 = x % 4294967296 := by rw [wrapU]; omega
theorem wrap_range (x : Int) : 0 ≤ IntKind.u64.wrap x ∧ IntKind.u64.wrap x < 18446744073709551616 := by rw [wrapU]; omega
/-- What the document's narrow makes. -/
def Nv (op a b : Int) : Int :=
  if op = 37 ∨ op = 42 then s32 (A64 op (s32 a) (b % 32)) else if op = 41 then s32 (A64 41 (a % 4294967296) (b % 32)) else if op = 55 ∨ op = 57 then s32 (A64 op (a % 4294967296) (b % 4294967296)) else s32 (A64 op (s32 a) (s32 b))
theorem shift_le (a n : Int) (a0 : 0 ≤ a) : 0 ≤ a / 2 ^ (n % 64).toNat ∧ a / 2 ^ (n % 64).toNat ≤ a :=
  ⟨Int.ediv_nonneg a0 (by exact Int.le_of_lt (Int.pow_pos (by decide))), Int.ediv_le_self _ a0⟩
theorem dvu_range {a b : Int} (a0 : 0 ≤ a) (a1 : a < 18446744073709551616) (b0 : 0 ≤ b) : 0 ≤ dvu a b ∧ dvu a b < 18446744073709551616 := by
  unfold dvu
  split
  · omega
  · have t : a / b ≤ a := Int.ediv_le_self _ a0
    have u : 0 ≤ a / b := Int.ediv_nonneg a0 b0
    omega
theorem rmu_range {a b : Int} (a0 : 0 ≤ a) (a1 : a < 18446744073709551616) (b0 : 0 ≤ b) (b1 : b < 18446744073709551616) : 0 ≤ rmu a b ∧ rmu a b < 18446744073709551616 := by
  unfold rmu
  split
  · omega
  · rename_i h
    have u : 0 ≤ a % b := Int.emod_nonneg _ h
    have v : a % b < b := Int.emod_lt_of_pos _ (by omega)
    omega
theorem dv_range (a b : Int) : 0 ≤ dv a b ∧ dv a b < 18446744073709551616 := by
  unfold dv
  split
  · omega
  · exact wrap_range _
theorem rm_range {a : Int} (b : Int) (a0 : 0 ≤ a) (a1 : a < 18446744073709551616) : 0 ≤ rm a b ∧ rm a b < 18446744073709551616 := by
  unfold rm
  split
  · omega
  · exact wrap_range _
/-- Operations that narrow is asked for. -/
def isQ (op : Int) : Prop := op = 35 ∨ op = 36 ∨ op = 37 ∨ op = 41 ∨ op = 42 ∨ op = 50 ∨ op = 54 ∨ op = 55 ∨ op = 56 ∨ op = 57
theorem A_range (op a b : Int) (h : isQ op) (a0 : 0 ≤ a) (a1 : a < 18446744073709551616) (b0 : 0 ≤ b) (b1 : b < 18446744073709551616) : 0 ≤ A64 op a b ∧ A64 op a b < 18446744073709551616 := by
  rcases h with rfl | rfl | rfl | rfl | rfl | rfl | rfl | rfl | rfl | rfl
  · exact wrap_range _
  · exact wrap_range _
  · exact wrap_range _
  · have := shift_le a b a0
    rw [A_41]
    omega
  · exact wrap_range _
  · exact wrap_range _
  · exact dv_range a b
  · exact dvu_range a0 a1 b0
  · exact rm_range b a0 a1
  · exact rmu_range a0 a1 b0 b1
theorem sign_lo (x : Int) (w : World) : Calls Tryd.prog 37 #[.int .u64 (x % 4294967296), .int .u64 32] w fun e w' => e = .returned (.int .u64 (s32 x)) ∧ w' = w := by
  have t := sign37 (x % 4294967296) (by omega) (by omega) w
  rw [s32_mod] at t
  exact t
set_option maxRecDepth 20000 in
set_option maxHeartbeats 4000000 in
theorem nar_37 (a b z : Int) (a0 : 0 ≤ a) (a1 : a < 18446744073709551616) (b0 : 0 ≤ b) (b1 : b < 18446744073709551616) (z0 : 0 ≤ z) (z1 : z < 18446744073709551616) (hz : ∀ w, Calls Tryd.prog 24 #[.int .i64 37, .int .u64 (s32 a), .int .u64 (b % 32)] w fun e w' => e = .returned (.int .u64 z) ∧ w' = w) (w : World) : Calls Tryd.prog 23 #[.int .i64 37, .int .u64 a, .int .u64 b] w fun e w' => e = .returned (.int .u64 (s32 z)) ∧ w' = w := by
  have hla := lo32 a0 a1
  have hlb := lo32 b0 b1
  have hl5 := lo5 b0 b1
  have hv := lo32 z0 z1
  have HZ : Hid (∀ w, Calls Tryd.prog 24 #[.int .i64 37, .int .u64 (s32 a), .int .u64 (b % 32)] w fun e w' => e = .returned (.int .u64 z) ∧ w' = w) := hz
  clear hz
  go_enter Tryd.func23, Tryd.ntmps23
  go_wp2_with (first | (go_at_call 37; refine (sign_lo _ _).mono ?_; rintro e w' ⟨rfl, rfl⟩) | (go_at_call 24; refine (HZ.out _).mono ?_; rintro e w' ⟨rfl, rfl⟩) | fail)
  go_ret
  exact ⟨rfl, rfl⟩
set_option maxRecDepth 20000 in
set_option maxHeartbeats 4000000 in
theorem nar_42 (a b z : Int) (a0 : 0 ≤ a) (a1 : a < 18446744073709551616) (b0 : 0 ≤ b) (b1 : b < 18446744073709551616) (z0 : 0 ≤ z) (z1 : z < 18446744073709551616) (hz : ∀ w, Calls Tryd.prog 24 #[.int .i64 42, .int .u64 (s32 a), .int .u64 (b % 32)] w fun e w' => e = .returned (.int .u64 z) ∧ w' = w) (w : World) : Calls Tryd.prog 23 #[.int .i64 42, .int .u64 a, .int .u64 b] w fun e w' => e = .returned (.int .u64 (s32 z)) ∧ w' = w := by
  have hla := lo32 a0 a1
  have hlb := lo32 b0 b1
  have hl5 := lo5 b0 b1
  have hv := lo32 z0 z1
  have HZ : Hid (∀ w, Calls Tryd.prog 24 #[.int .i64 42, .int .u64 (s32 a), .int .u64 (b % 32)] w fun e w' => e = .returned (.int .u64 z) ∧ w' = w) := hz
  clear hz
  go_enter Tryd.func23, Tryd.ntmps23
  go_wp2_with (first | (go_at_call 37; refine (sign_lo _ _).mono ?_; rintro e w' ⟨rfl, rfl⟩) | (go_at_call 24; refine (HZ.out _).mono ?_; rintro e w' ⟨rfl, rfl⟩) | fail)
  go_ret
  exact ⟨rfl, rfl⟩
set_option maxRecDepth 20000 in
set_option maxHeartbeats 4000000 in
theorem nar_41 (a b z : Int) (a0 : 0 ≤ a) (a1 : a < 18446744073709551616) (b0 : 0 ≤ b) (b1 : b < 18446744073709551616) (z0 : 0 ≤ z) (z1 : z < 4294967296) (hz : ∀ w, Calls Tryd.prog 24 #[.int .i64 41, .int .u64 (a % 4294967296), .int .u64 (b % 32)] w fun e w' => e = .returned (.int .u64 z) ∧ w' = w) (w : World) : Calls Tryd.prog 23 #[.int .i64 41, .int .u64 a, .int .u64 b] w fun e w' => e = .returned (.int .u64 (s32 z)) ∧ w' = w := by
  have hla := lo32 a0 a1
  have hlb := lo32 b0 b1
  have hl5 := lo5 b0 b1
  have HZ : Hid (∀ w, Calls Tryd.prog 24 #[.int .i64 41, .int .u64 (a % 4294967296), .int .u64 (b % 32)] w fun e w' => e = .returned (.int .u64 z) ∧ w' = w) := hz
  clear hz
  go_enter Tryd.func23, Tryd.ntmps23
  go_wp2_with fail
  refine (sign_lo a _).mono ?_
  rintro e w1 ⟨rfl, hw⟩
  subst hw
  go_wp2_with fail
  refine (sign_lo b _).mono ?_
  rintro e w2 ⟨rfl, hw⟩
  subst hw
  go_wp2_with fail
  refine (HZ.out _).mono ?_
  rintro e w3 ⟨rfl, hw⟩
  subst hw
  go_wp2_with fail
  refine (sign37 z z0 z1 _).mono ?_
  rintro e w4 ⟨rfl, hw⟩
  subst hw
  go_wp2
  go_ret
  exact ⟨rfl, rfl⟩
set_option maxRecDepth 20000 in
set_option maxHeartbeats 4000000 in
theorem nar_55 (a b z : Int) (a0 : 0 ≤ a) (a1 : a < 18446744073709551616) (b0 : 0 ≤ b) (b1 : b < 18446744073709551616) (z0 : 0 ≤ z) (z1 : z < 18446744073709551616) (hz : ∀ w, Calls Tryd.prog 24 #[.int .i64 55, .int .u64 (a % 4294967296), .int .u64 (b % 4294967296)] w fun e w' => e = .returned (.int .u64 z) ∧ w' = w) (w : World) : Calls Tryd.prog 23 #[.int .i64 55, .int .u64 a, .int .u64 b] w fun e w' => e = .returned (.int .u64 (s32 z)) ∧ w' = w := by
  have hla := lo32 a0 a1
  have hlb := lo32 b0 b1
  have hl5 := lo5 b0 b1
  have hv := lo32 z0 z1
  have HZ : Hid (∀ w, Calls Tryd.prog 24 #[.int .i64 55, .int .u64 (a % 4294967296), .int .u64 (b % 4294967296)] w fun e w' => e = .returned (.int .u64 z) ∧ w' = w) := hz
  clear hz
  go_enter Tryd.func23, Tryd.ntmps23
  go_wp2_with (first | (go_at_call 37; refine (sign_lo _ _).mono ?_; rintro e w' ⟨rfl, rfl⟩) | (go_at_call 24; refine (HZ.out _).mono ?_; rintro e w' ⟨rfl, rfl⟩) | fail)
  go_ret
  exact ⟨rfl, rfl⟩
set_option maxRecDepth 20000 in
set_option maxHeartbeats 4000000 in
theorem nar_57 (a b z : Int) (a0 : 0 ≤ a) (a1 : a < 18446744073709551616) (b0 : 0 ≤ b) (b1 : b < 18446744073709551616) (z0 : 0 ≤ z) (z1 : z < 18446744073709551616) (hz : ∀ w, Calls Tryd.prog 24 #[.int .i64 57, .int .u64 (a % 4294967296), .int .u64 (b % 4294967296)] w fun e w' => e = .returned (.int .u64 z) ∧ w' = w) (w : World) : Calls Tryd.prog 23 #[.int .i64 57, .int .u64 a, .int .u64 b] w fun e w' => e = .returned (.int .u64 (s32 z)) ∧ w' = w := by
  have hla := lo32 a0 a1
  have hlb := lo32 b0 b1
  have hl5 := lo5 b0 b1
  have hv := lo32 z0 z1
  have HZ : Hid (∀ w, Calls Tryd.prog 24 #[.int .i64 57, .int .u64 (a % 4294967296), .int .u64 (b % 4294967296)] w fun e w' => e = .returned (.int .u64 z) ∧ w' = w) := hz
  clear hz
  go_enter Tryd.func23, Tryd.ntmps23
  go_wp2_with (first | (go_at_call 37; refine (sign_lo _ _).mono ?_; rintro e w' ⟨rfl, rfl⟩) | (go_at_call 24; refine (HZ.out _).mono ?_; rintro e w' ⟨rfl, rfl⟩) | fail)
  go_ret
  exact ⟨rfl, rfl⟩
set_option maxRecDepth 20000 in
set_option maxHeartbeats 4000000 in
theorem nar_o (op a b z : Int) (h : op = 35 ∨ op = 36 ∨ op = 50 ∨ op = 54 ∨ op = 56) (a0 : 0 ≤ a) (a1 : a < 18446744073709551616) (b0 : 0 ≤ b) (b1 : b < 18446744073709551616) (z0 : 0 ≤ z) (z1 : z < 18446744073709551616) (hz : ∀ w, Calls Tryd.prog 24 #[.int .i64 op, .int .u64 (s32 a), .int .u64 (s32 b)] w fun e w' => e = .returned (.int .u64 z) ∧ w' = w) (w : World) : Calls Tryd.prog 23 #[.int .i64 op, .int .u64 a, .int .u64 b] w fun e w' => e = .returned (.int .u64 (s32 z)) ∧ w' = w := by
  have n37 : (op == 37) = false := by rcases h with rfl | rfl | rfl | rfl | rfl <;> rfl
  have n42 : (op == 42) = false := by rcases h with rfl | rfl | rfl | rfl | rfl <;> rfl
  have n41 : (op == 41) = false := by rcases h with rfl | rfl | rfl | rfl | rfl <;> rfl
  have n55 : (op == 55) = false := by rcases h with rfl | rfl | rfl | rfl | rfl <;> rfl
  have n57 : (op == 57) = false := by rcases h with rfl | rfl | rfl | rfl | rfl <;> rfl
  have hla := lo32 a0 a1
  have hlb := lo32 b0 b1
  have hl5 := lo5 b0 b1
  have hv := lo32 z0 z1
  have HZ : Hid (∀ w, Calls Tryd.prog 24 #[.int .i64 op, .int .u64 (s32 a), .int .u64 (s32 b)] w fun e w' => e = .returned (.int .u64 z) ∧ w' = w) := hz
  clear hz
  go_enter Tryd.func23, Tryd.ntmps23
  go_wp2_with (first | (go_at_call 37; refine (sign_lo _ _).mono ?_; rintro e w' ⟨rfl, rfl⟩) | (go_at_call 24; refine (HZ.out _).mono ?_; rintro e w' ⟨rfl, rfl⟩) | fail)
  go_ret
  exact ⟨rfl, rfl⟩
theorem narrow23 (op a b : Int) (h : isQ op) (a0 : 0 ≤ a) (a1 : a < 18446744073709551616) (b0 : 0 ≤ b) (b1 : b < 18446744073709551616) (w : World) : Calls Tryd.prog 23 #[.int .i64 op, .int .u64 a, .int .u64 b] w fun e w' => e = .returned (.int .u64 (Nv op a b)) ∧ w' = w := by
  have sa := s32_range a
  have sb := s32_range b
  have la := lo_range a
  have lb := lo_range b
  rcases h with rfl | rfl | rfl | rfl | rfl | rfl | rfl | rfl | rfl | rfl
  · have r := A_range 35 (s32 a) (s32 b) (by unfold isQ; omega) sa.1 sa.2 sb.1 sb.2
    exact nar_o 35 a b _ (by omega) a0 a1 b0 b1 r.1 r.2 (fun w => alu24 35 _ _ (by unfold isW; omega) sa.1 sa.2 sb.1 sb.2 w) w
  · have r := A_range 36 (s32 a) (s32 b) (by unfold isQ; omega) sa.1 sa.2 sb.1 sb.2
    exact nar_o 36 a b _ (by omega) a0 a1 b0 b1 r.1 r.2 (fun w => alu24 36 _ _ (by unfold isW; omega) sa.1 sa.2 sb.1 sb.2 w) w
  · have r := A_range 37 (s32 a) (b % 32) (by unfold isQ; omega) sa.1 sa.2 (by omega) (by omega)
    exact nar_37 a b _ a0 a1 b0 b1 r.1 r.2 (fun w => alu24 37 _ _ (by unfold isW; omega) sa.1 sa.2 (by omega) (by omega) w) w
  · have r := shift_le (a % 4294967296) (b % 32) la.1
    have r2 : A64 41 (a % 4294967296) (b % 32) < 4294967296 := by rw [A_41]; omega
    exact nar_41 a b _ a0 a1 b0 b1 r.1 r2 (fun w => alu24 41 _ _ (by unfold isW; omega) la.1 la.2 (by omega) (by omega) w) w
  · have r := A_range 42 (s32 a) (b % 32) (by unfold isQ; omega) sa.1 sa.2 (by omega) (by omega)
    exact nar_42 a b _ a0 a1 b0 b1 r.1 r.2 (fun w => alu24 42 _ _ (by unfold isW; omega) sa.1 sa.2 (by omega) (by omega) w) w
  · have r := A_range 50 (s32 a) (s32 b) (by unfold isQ; omega) sa.1 sa.2 sb.1 sb.2
    exact nar_o 50 a b _ (by omega) a0 a1 b0 b1 r.1 r.2 (fun w => alu24 50 _ _ (by unfold isW; omega) sa.1 sa.2 sb.1 sb.2 w) w
  · have r := A_range 54 (s32 a) (s32 b) (by unfold isQ; omega) sa.1 sa.2 sb.1 sb.2
    exact nar_o 54 a b _ (by omega) a0 a1 b0 b1 r.1 r.2 (fun w => alu24 54 _ _ (by unfold isW; omega) sa.1 sa.2 sb.1 sb.2 w) w
  · have r := A_range 55 (a % 4294967296) (b % 4294967296) (by unfold isQ; omega) la.1 la.2 lb.1 lb.2
    exact nar_55 a b _ a0 a1 b0 b1 r.1 r.2 (fun w => alu24 55 _ _ (by unfold isW; omega) la.1 la.2 lb.1 lb.2 w) w
  · have r := A_range 56 (s32 a) (s32 b) (by unfold isQ; omega) sa.1 sa.2 sb.1 sb.2
    exact nar_o 56 a b _ (by omega) a0 a1 b0 b1 r.1 r.2 (fun w => alu24 56 _ _ (by unfold isW; omega) sa.1 sa.2 sb.1 sb.2 w) w
  · have r := A_range 57 (a % 4294967296) (b % 4294967296) (by unfold isQ; omega) la.1 la.2 lb.1 lb.2
    exact nar_57 a b _ a0 a1 b0 b1 r.1 r.2 (fun w => alu24 57 _ _ (by unfold isW; omega) la.1 la.2 lb.1 lb.2 w) w
end
section
open Go.RowKit Go.Shelf
set_option maxHeartbeats 1000000 in
theorem wide22_22 (w : World) : Calls Tryd.prog 22 #[.int .i64 22] w fun e w' => e = .returned (.tuple #[.int .i64 (wOf 22), .bool (isN32 22)]) ∧ Below w.heap.size w w' := by
  go_enter Tryd.func22, Tryd.ntmps22
  go_wp2
  go_ret2
  exact ⟨rfl, (Below.refl _ w).alloc (Nat.le_refl _) _⟩
set_option maxHeartbeats 1000000 in
theorem wide22_23 (w : World) : Calls Tryd.prog 22 #[.int .i64 23] w fun e w' => e = .returned (.tuple #[.int .i64 (wOf 23), .bool (isN32 23)]) ∧ Below w.heap.size w w' := by
  go_enter Tryd.func22, Tryd.ntmps22
  go_wp2
  go_ret2
  exact ⟨rfl, (Below.refl _ w).alloc (Nat.le_refl _) _⟩
set_option maxHeartbeats 1000000 in
theorem wide22_24 (w : World) : Calls Tryd.prog 22 #[.int .i64 24] w fun e w' => e = .returned (.tuple #[.int .i64 (wOf 24), .bool (isN32 24)]) ∧ Below w.heap.size w w' := by
  go_enter Tryd.func22, Tryd.ntmps22
  go_wp2
  go_ret2
  exact ⟨rfl, (Below.refl _ w).alloc (Nat.le_refl _) _⟩
set_option maxHeartbeats 1000000 in
theorem wide22_25 (w : World) : Calls Tryd.prog 22 #[.int .i64 25] w fun e w' => e = .returned (.tuple #[.int .i64 (wOf 25), .bool (isN32 25)]) ∧ Below w.heap.size w w' := by
  go_enter Tryd.func22, Tryd.ntmps22
  go_wp2
  go_ret2
  exact ⟨rfl, (Below.refl _ w).alloc (Nat.le_refl _) _⟩
set_option maxHeartbeats 1000000 in
theorem wide22_26 (w : World) : Calls Tryd.prog 22 #[.int .i64 26] w fun e w' => e = .returned (.tuple #[.int .i64 (wOf 26), .bool (isN32 26)]) ∧ Below w.heap.size w w' := by
  go_enter Tryd.func22, Tryd.ntmps22
  go_wp2
  go_ret2
  exact ⟨rfl, (Below.refl _ w).alloc (Nat.le_refl _) _⟩
set_option maxHeartbeats 1000000 in
theorem wide22_27 (w : World) : Calls Tryd.prog 22 #[.int .i64 27] w fun e w' => e = .returned (.tuple #[.int .i64 (wOf 27), .bool (isN32 27)]) ∧ Below w.heap.size w w' := by
  go_enter Tryd.func22, Tryd.ntmps22
  go_wp2
  go_ret2
  exact ⟨rfl, (Below.refl _ w).alloc (Nat.le_refl _) _⟩
set_option maxHeartbeats 1000000 in
theorem wide22_28 (w : World) : Calls Tryd.prog 22 #[.int .i64 28] w fun e w' => e = .returned (.tuple #[.int .i64 (wOf 28), .bool (isN32 28)]) ∧ Below w.heap.size w w' := by
  go_enter Tryd.func22, Tryd.ntmps22
  go_wp2
  go_ret2
  exact ⟨rfl, (Below.refl _ w).alloc (Nat.le_refl _) _⟩
set_option maxHeartbeats 1000000 in
theorem wide22_29 (w : World) : Calls Tryd.prog 22 #[.int .i64 29] w fun e w' => e = .returned (.tuple #[.int .i64 (wOf 29), .bool (isN32 29)]) ∧ Below w.heap.size w w' := by
  go_enter Tryd.func22, Tryd.ntmps22
  go_wp2
  go_ret2
  exact ⟨rfl, (Below.refl _ w).alloc (Nat.le_refl _) _⟩
set_option maxHeartbeats 1000000 in
theorem wide22_30 (w : World) : Calls Tryd.prog 22 #[.int .i64 30] w fun e w' => e = .returned (.tuple #[.int .i64 (wOf 30), .bool (isN32 30)]) ∧ Below w.heap.size w w' := by
  go_enter Tryd.func22, Tryd.ntmps22
  go_wp2
  go_ret2
  exact ⟨rfl, (Below.refl _ w).alloc (Nat.le_refl _) _⟩
set_option maxHeartbeats 1000000 in
theorem wide22_31 (w : World) : Calls Tryd.prog 22 #[.int .i64 31] w fun e w' => e = .returned (.tuple #[.int .i64 (wOf 31), .bool (isN32 31)]) ∧ Below w.heap.size w w' := by
  go_enter Tryd.func22, Tryd.ntmps22
  go_wp2
  go_ret2
  exact ⟨rfl, (Below.refl _ w).alloc (Nat.le_refl _) _⟩
set_option maxHeartbeats 1000000 in
theorem wide22_32 (w : World) : Calls Tryd.prog 22 #[.int .i64 32] w fun e w' => e = .returned (.tuple #[.int .i64 (wOf 32), .bool (isN32 32)]) ∧ Below w.heap.size w w' := by
  go_enter Tryd.func22, Tryd.ntmps22
  go_wp2
  go_ret2
  exact ⟨rfl, (Below.refl _ w).alloc (Nat.le_refl _) _⟩
set_option maxHeartbeats 1000000 in
theorem wide22_33 (w : World) : Calls Tryd.prog 22 #[.int .i64 33] w fun e w' => e = .returned (.tuple #[.int .i64 (wOf 33), .bool (isN32 33)]) ∧ Below w.heap.size w w' := by
  go_enter Tryd.func22, Tryd.ntmps22
  go_wp2
  go_ret2
  exact ⟨rfl, (Below.refl _ w).alloc (Nat.le_refl _) _⟩
set_option maxHeartbeats 1000000 in
theorem wide22_34 (w : World) : Calls Tryd.prog 22 #[.int .i64 34] w fun e w' => e = .returned (.tuple #[.int .i64 (wOf 34), .bool (isN32 34)]) ∧ Below w.heap.size w w' := by
  go_enter Tryd.func22, Tryd.ntmps22
  go_wp2
  go_ret2
  exact ⟨rfl, (Below.refl _ w).alloc (Nat.le_refl _) _⟩
set_option maxHeartbeats 1000000 in
theorem wide22_45 (w : World) : Calls Tryd.prog 22 #[.int .i64 45] w fun e w' => e = .returned (.tuple #[.int .i64 (wOf 45), .bool (isN32 45)]) ∧ Below w.heap.size w w' := by
  go_enter Tryd.func22, Tryd.ntmps22
  go_wp2
  go_ret2
  exact ⟨rfl, (Below.refl _ w).alloc (Nat.le_refl _) _⟩
set_option maxHeartbeats 1000000 in
theorem wide22_46 (w : World) : Calls Tryd.prog 22 #[.int .i64 46] w fun e w' => e = .returned (.tuple #[.int .i64 (wOf 46), .bool (isN32 46)]) ∧ Below w.heap.size w w' := by
  go_enter Tryd.func22, Tryd.ntmps22
  go_wp2
  go_ret2
  exact ⟨rfl, (Below.refl _ w).alloc (Nat.le_refl _) _⟩
set_option maxHeartbeats 1000000 in
theorem wide22_47 (w : World) : Calls Tryd.prog 22 #[.int .i64 47] w fun e w' => e = .returned (.tuple #[.int .i64 (wOf 47), .bool (isN32 47)]) ∧ Below w.heap.size w w' := by
  go_enter Tryd.func22, Tryd.ntmps22
  go_wp2
  go_ret2
  exact ⟨rfl, (Below.refl _ w).alloc (Nat.le_refl _) _⟩
set_option maxHeartbeats 1000000 in
theorem wide22_48 (w : World) : Calls Tryd.prog 22 #[.int .i64 48] w fun e w' => e = .returned (.tuple #[.int .i64 (wOf 48), .bool (isN32 48)]) ∧ Below w.heap.size w w' := by
  go_enter Tryd.func22, Tryd.ntmps22
  go_wp2
  go_ret2
  exact ⟨rfl, (Below.refl _ w).alloc (Nat.le_refl _) _⟩
set_option maxHeartbeats 1000000 in
theorem wide22_49 (w : World) : Calls Tryd.prog 22 #[.int .i64 49] w fun e w' => e = .returned (.tuple #[.int .i64 (wOf 49), .bool (isN32 49)]) ∧ Below w.heap.size w w' := by
  go_enter Tryd.func22, Tryd.ntmps22
  go_wp2
  go_ret2
  exact ⟨rfl, (Below.refl _ w).alloc (Nat.le_refl _) _⟩
set_option maxHeartbeats 1000000 in
theorem wide22_58 (w : World) : Calls Tryd.prog 22 #[.int .i64 58] w fun e w' => e = .returned (.tuple #[.int .i64 (wOf 58), .bool (isN32 58)]) ∧ Below w.heap.size w w' := by
  go_enter Tryd.func22, Tryd.ntmps22
  go_wp2
  go_ret2
  exact ⟨rfl, (Below.refl _ w).alloc (Nat.le_refl _) _⟩
set_option maxHeartbeats 1000000 in
theorem wide22_59 (w : World) : Calls Tryd.prog 22 #[.int .i64 59] w fun e w' => e = .returned (.tuple #[.int .i64 (wOf 59), .bool (isN32 59)]) ∧ Below w.heap.size w w' := by
  go_enter Tryd.func22, Tryd.ntmps22
  go_wp2
  go_ret2
  exact ⟨rfl, (Below.refl _ w).alloc (Nat.le_refl _) _⟩
set_option maxHeartbeats 1000000 in
theorem wide22_60 (w : World) : Calls Tryd.prog 22 #[.int .i64 60] w fun e w' => e = .returned (.tuple #[.int .i64 (wOf 60), .bool (isN32 60)]) ∧ Below w.heap.size w w' := by
  go_enter Tryd.func22, Tryd.ntmps22
  go_wp2
  go_ret2
  exact ⟨rfl, (Below.refl _ w).alloc (Nat.le_refl _) _⟩
set_option maxHeartbeats 1000000 in
theorem wide22_61 (w : World) : Calls Tryd.prog 22 #[.int .i64 61] w fun e w' => e = .returned (.tuple #[.int .i64 (wOf 61), .bool (isN32 61)]) ∧ Below w.heap.size w w' := by
  go_enter Tryd.func22, Tryd.ntmps22
  go_wp2
  go_ret2
  exact ⟨rfl, (Below.refl _ w).alloc (Nat.le_refl _) _⟩
set_option maxHeartbeats 1000000 in
theorem wide22_62 (w : World) : Calls Tryd.prog 22 #[.int .i64 62] w fun e w' => e = .returned (.tuple #[.int .i64 (wOf 62), .bool (isN32 62)]) ∧ Below w.heap.size w w' := by
  go_enter Tryd.func22, Tryd.ntmps22
  go_wp2
  go_ret2
  exact ⟨rfl, (Below.refl _ w).alloc (Nat.le_refl _) _⟩
end
section
open Go.RowKit Go.Shelf
set_option maxHeartbeats 1000000 in
theorem wide22_m (op : Int) (h1 : 35 ≤ op) (h2 : op ≤ 44) (w : World) : Calls Tryd.prog 22 #[.int .i64 op] w fun e w' => e = .returned (.tuple #[.int .i64 op, .bool false]) ∧ Below w.heap.size w w' := by
  go_enter Tryd.func22, Tryd.ntmps22
  go_wp2
  go_ret2
  exact ⟨rfl, Below.refl _ w⟩
set_option maxHeartbeats 1000000 in
theorem wide22_n (op : Int) (h1 : 50 ≤ op) (h2 : op ≤ 57) (w : World) : Calls Tryd.prog 22 #[.int .i64 op] w fun e w' => e = .returned (.tuple #[.int .i64 op, .bool false]) ∧ Below w.heap.size w w' := by
  go_enter Tryd.func22, Tryd.ntmps22
  go_wp2
  go_ret2
  exact ⟨rfl, Below.refl _ w⟩
theorem wOf_same (op : Int) (h : isW op) : wOf op = op := by
  unfold isW at h
  unfold wOf
  repeat rw [if_neg (by omega)]
theorem isN_same (op : Int) (h : isW op) : isN32 op = false := by
  unfold isW at h
  unfold isN32
  simp
  omega
theorem wide22 (op : Int) (h1 : 22 ≤ op) (h2 : op ≤ 62) (w : World) : Calls Tryd.prog 22 #[.int .i64 op] w fun e w' => e = .returned (.tuple #[.int .i64 (wOf op), .bool (isN32 op)]) ∧ Below w.heap.size w w' := by
  by_cases h : isW op
  · rw [wOf_same op h, isN_same op h]
    rcases h with ⟨a, b⟩ | ⟨a, b⟩
    · exact wide22_m op a b w
    · exact wide22_n op a b w
  · unfold isW at h
    have hl : op = 22 ∨ op = 23 ∨ op = 24 ∨ op = 25 ∨ op = 26 ∨ op = 27 ∨ op = 28 ∨ op = 29 ∨ op = 30 ∨ op = 31 ∨ op = 32 ∨ op = 33 ∨ op = 34 ∨ op = 45 ∨ op = 46 ∨ op = 47 ∨ op = 48 ∨ op = 49 ∨ op = 58 ∨ op = 59 ∨ op = 60 ∨ op = 61 ∨ op = 62 := by omega
    rcases hl with rfl | rfl | rfl | rfl | rfl | rfl | rfl | rfl | rfl | rfl | rfl | rfl | rfl | rfl | rfl | rfl | rfl | rfl | rfl | rfl | rfl | rfl | rfl
    · exact wide22_22 w
    · exact wide22_23 w
    · exact wide22_24 w
    · exact wide22_25 w
    · exact wide22_26 w
    · exact wide22_27 w
    · exact wide22_28 w
    · exact wide22_29 w
    · exact wide22_30 w
    · exact wide22_31 w
    · exact wide22_32 w
    · exact wide22_33 w
    · exact wide22_34 w
    · exact wide22_45 w
    · exact wide22_46 w
    · exact wide22_47 w
    · exact wide22_48 w
    · exact wide22_49 w
    · exact wide22_58 w
    · exact wide22_59 w
    · exact wide22_60 w
    · exact wide22_61 w
    · exact wide22_62 w
/-- What Alu makes. -/
def Fv (op a b : Int) : Int := if isN32 op then s32 (Pv op a b) else Pv op a b
theorem add_cong (a b : Int) : s32 (IntKind.u64.wrap (s32 a + s32 b)) = s32 (IntKind.u64.wrap (a + b)) := s32_congr (by
  rw [wrap_cong, wrap_cong]
  have := s32_cong a
  have := s32_cong b
  omega)
theorem sub_cong (a b : Int) : s32 (IntKind.u64.wrap (s32 a - s32 b)) = s32 (IntKind.u64.wrap (a - b)) := s32_congr (by
  rw [wrap_cong, wrap_cong]
  have := s32_cong a
  have := s32_cong b
  omega)
theorem mul_cong (a b : Int) : s32 (IntKind.u64.wrap (s32 a * s32 b)) = s32 (IntKind.u64.wrap (a * b)) := s32_congr (by
  rw [wrap_cong, wrap_cong, Int.mul_emod, s32_cong, s32_cong, ← Int.mul_emod])
theorem sll_cong (a c : Int) : s32 (IntKind.u64.wrap (s32 a * c)) = s32 (IntKind.u64.wrap (a * c)) := s32_congr (by
  rw [wrap_cong, wrap_cong, Int.mul_emod, s32_cong, ← Int.mul_emod])
theorem nv_eq (op a b : Int) (h : isN32 op = true) : Nv (wOf op) a b = s32 (Pv op a b) := by
  have hl : op = 31 ∨ op = 32 ∨ op = 33 ∨ op = 34 ∨ op = 45 ∨ op = 46 ∨ op = 47 ∨ op = 48 ∨ op = 49 ∨ op = 58 ∨ op = 59 ∨ op = 60 ∨ op = 61 ∨ op = 62 := by unfold isN32 at h; simp at h; omega
  rcases hl with rfl | rfl | rfl | rfl | rfl | rfl | rfl | rfl | rfl | rfl | rfl | rfl | rfl | rfl
  · exact add_cong a b
  · exact sll_cong a _
  · exact rfl
  · exact rfl
  · exact add_cong a b
  · exact sub_cong a b
  · exact sll_cong a _
  · exact rfl
  · exact rfl
  · exact mul_cong a b
  · exact rfl
  · exact rfl
  · exact rfl
  · exact rfl
theorem isQ_of (op : Int) (h : isN32 op = true) : isQ (wOf op) := by
  have hl : op = 31 ∨ op = 32 ∨ op = 33 ∨ op = 34 ∨ op = 45 ∨ op = 46 ∨ op = 47 ∨ op = 48 ∨ op = 49 ∨ op = 58 ∨ op = 59 ∨ op = 60 ∨ op = 61 ∨ op = 62 := by unfold isN32 at h; simp at h; omega
  rcases hl with rfl | rfl | rfl | rfl | rfl | rfl | rfl | rfl | rfl | rfl | rfl | rfl | rfl | rfl <;> (unfold isQ; decide)
theorem isW_of (op a b : Int) (h1 : 22 ≤ op) (h2 : op ≤ 62) (h : isN32 op = false) : isW (wOf op) ∧ Pv op a b = A64 (wOf op) a b := by
  have hl : op = 22 ∨ op = 23 ∨ op = 24 ∨ op = 25 ∨ op = 26 ∨ op = 27 ∨ op = 28 ∨ op = 29 ∨ op = 30 ∨ op = 35 ∨ op = 36 ∨ op = 37 ∨ op = 38 ∨ op = 39 ∨ op = 40 ∨ op = 41 ∨ op = 42 ∨ op = 43 ∨ op = 44 ∨ op = 50 ∨ op = 51 ∨ op = 52 ∨ op = 53 ∨ op = 54 ∨ op = 55 ∨ op = 56 ∨ op = 57 := by unfold isN32 at h; simp at h; omega
  rcases hl with rfl | rfl | rfl | rfl | rfl | rfl | rfl | rfl | rfl | rfl | rfl | rfl | rfl | rfl | rfl | rfl | rfl | rfl | rfl | rfl | rfl | rfl | rfl | rfl | rfl | rfl | rfl <;> exact ⟨by unfold isW; decide, rfl⟩
set_option maxHeartbeats 1000000 in
theorem alu8_n (op a b : Int) (h1 : 22 ≤ op) (h2 : op ≤ 62) (h : isN32 op = true) (a0 : 0 ≤ a) (a1 : a < 18446744073709551616) (b0 : 0 ≤ b) (b1 : b < 18446744073709551616) (w : World) : Calls Tryd.prog 8 #[.int .i64 op, .int .u64 a, .int .u64 b] w fun e w' => e = .returned (.tuple #[.int .u64 (s32 (Pv op a b)), .int .i64 0]) ∧ Below w.heap.size w w' := by
  have HW : Hid (∀ w, Calls Tryd.prog 22 #[.int .i64 op] w fun e w' => e = .returned (.tuple #[.int .i64 (wOf op), .bool true]) ∧ Below w.heap.size w w') := fun w => by rw [← h]; exact wide22 op h1 h2 w
  have HN : Hid (∀ w, Calls Tryd.prog 23 #[.int .i64 (wOf op), .int .u64 a, .int .u64 b] w fun e w' => e = .returned (.int .u64 (s32 (Pv op a b))) ∧ w' = w) := fun w => by rw [← nv_eq op a b h]; exact narrow23 _ a b (isQ_of op h) a0 a1 b0 b1 w
  clear h
  generalize wOf op = q at *
  generalize s32 (Pv op a b) = z at *
  go_enter Tryd.func8, Tryd.ntmps8
  go_wp2_with fail
  refine (HW.out _).mono ?_
  rintro e w1 ⟨rfl, hb⟩
  have HB : Hid (Below w.heap.size w w1) := hb
  clear hb
  go_wp2_with fail
  refine (HN.out _).mono ?_
  rintro e w2 ⟨rfl, h2⟩
  subst h2
  go_wp2
  go_ret2
  exact ⟨rfl, HB.out⟩
set_option maxHeartbeats 1000000 in
theorem alu8_w (op a b : Int) (h1 : 22 ≤ op) (h2 : op ≤ 62) (h : isN32 op = false) (a0 : 0 ≤ a) (a1 : a < 18446744073709551616) (b0 : 0 ≤ b) (b1 : b < 18446744073709551616) (w : World) : Calls Tryd.prog 8 #[.int .i64 op, .int .u64 a, .int .u64 b] w fun e w' => e = .returned (.tuple #[.int .u64 (Pv op a b), .int .i64 0]) ∧ Below w.heap.size w w' := by
  obtain ⟨hw, hp⟩ := isW_of op a b h1 h2 h
  have HW : Hid (∀ w, Calls Tryd.prog 22 #[.int .i64 op] w fun e w' => e = .returned (.tuple #[.int .i64 (wOf op), .bool false]) ∧ Below w.heap.size w w') := fun w => by rw [← h]; exact wide22 op h1 h2 w
  have HN : Hid (∀ w, Calls Tryd.prog 24 #[.int .i64 (wOf op), .int .u64 a, .int .u64 b] w fun e w' => e = .returned (.int .u64 (Pv op a b)) ∧ w' = w) := fun w => by rw [hp]; exact alu24 _ a b hw a0 a1 b0 b1 w
  clear h hw hp
  generalize wOf op = q at *
  generalize Pv op a b = z at *
  go_enter Tryd.func8, Tryd.ntmps8
  go_wp2_with fail
  refine (HW.out _).mono ?_
  rintro e w1 ⟨rfl, hb⟩
  have HB : Hid (Below w.heap.size w w1) := hb
  clear hb
  go_wp2_with fail
  refine (HN.out _).mono ?_
  rintro e w2 ⟨rfl, h2⟩
  subst h2
  go_wp2
  go_ret2
  exact ⟨rfl, HB.out⟩
set_option maxHeartbeats 1000000 in
theorem alu8_o (op a b : Int) (h : op < 22 ∨ 62 < op) (w : World) : Calls Tryd.prog 8 #[.int .i64 op, .int .u64 a, .int .u64 b] w fun e w' => e = .returned (.tuple #[.int .u64 0, .int .i64 1]) ∧ w' = w := by
  rcases h with h | h
  · go_enter Tryd.func8, Tryd.ntmps8
    go_wp2
    go_ret2
    exact ⟨rfl, rfl⟩
  · go_enter Tryd.func8, Tryd.ntmps8
    go_wp2
    go_ret2
    exact ⟨rfl, rfl⟩
set_option maxHeartbeats 1000000 in
theorem alu7_o (op a b : Int) (h : op < 22 ∨ 62 < op) (w : World) : Calls Tryd.prog 7 #[.int .i64 op, .int .u64 a, .int .u64 b] w fun e w' => e = .returned (.tuple #[.int .u64 0, .int .i64 1]) ∧ w' = w := by
  rcases h with h | h
  · go_enter Tryd.func7, Tryd.ntmps7
    go_wp2
    go_ret2
    exact ⟨rfl, rfl⟩
  · go_enter Tryd.func7, Tryd.ntmps7
    go_wp2
    go_ret2
    exact ⟨rfl, rfl⟩
set_option maxHeartbeats 1000000 in
theorem alu7_any (op a b : Int) (h1 : 22 ≤ op) (h2 : op ≤ 62) (w : World) (hs : Calls Tryd.prog 20 #[.int .i64 op, .int .u64 a, .int .u64 b] w fun e w' => e = .returned (.tuple #[.int .u64 (Pv op a b), .bool (isN32 op)]) ∧ ∃ m, w' = w.drewN m) : Calls Tryd.prog 7 #[.int .i64 op, .int .u64 a, .int .u64 b] w fun e w' => e = .returned (.tuple #[.int .u64 (Fv op a b), .int .i64 0]) ∧ ∃ m, w' = w.drewN m := by
  unfold Fv
  have HS : Hid (Calls Tryd.prog 20 #[.int .i64 op, .int .u64 a, .int .u64 b] w fun e w' => e = .returned (.tuple #[.int .u64 (Pv op a b), .bool (isN32 op)]) ∧ ∃ m, w' = w.drewN m) := hs
  clear hs
  generalize Pv op a b = z at *
  cases hn : isN32 op
  · rw [hn] at HS
    go_enter Tryd.func7, Tryd.ntmps7
    go_wp2_with fail
    refine HS.out.mono ?_
    rintro e w1 ⟨rfl, m, rfl⟩
    go_wp2
    go_ret2
    exact ⟨rfl, m, rfl⟩
  · rw [hn] at HS
    go_enter Tryd.func7, Tryd.ntmps7
    go_wp2_with fail
    refine HS.out.mono ?_
    rintro e w1 ⟨rfl, m, rfl⟩
    go_wp2_with ((go_at_call 21; refine (signed21 _ _).mono ?_; rintro e w' ⟨rfl, h2⟩; subst h2))
    go_ret2
    exact ⟨rfl, m, rfl⟩
end
end Go.Proofs.YtnmpbihpoefeoaaDoor
