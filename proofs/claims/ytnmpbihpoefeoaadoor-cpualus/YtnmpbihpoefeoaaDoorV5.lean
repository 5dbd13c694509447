/- Operations of two numbers: the document's Alu. -/
import Derived.Test.YtnmpbihpoefeoaaDoorV4
namespace Go.Proofs.YtnmpbihpoefeoaaDoor
open Go.RowKit Go.Shelf
theorem s32_congr {x y : Int} (h : x % 4294967296 = y % 4294967296) : s32 x = s32 y := by rw [← s32_mod x, h, s32_mod]
theorem s32_cong (v : Int) : s32 v % 4294967296 = v % 4294967296 := by unfold s32 wrap32; omega
theorem mod_mod (x : Int) : x % 18446744073709551616 % 4294967296 = x % 4294967296 := by omega
theorem wrap_cong (x : Int) : IntKind.u64.wrap x % 4294967296 = x % 4294967296 := by rw [wrapU]; omega
theorem wrap_range (x : Int) : 0 ≤ IntKind.u64.wrap x ∧ IntKind.u64.wrap x < 18446744073709551616 := by rw [wrapU]; omega
/-- What the document's narrow makes. -/
def Nv (op a b : Int) : Int :=
  if op = 37 ∨ op = 42 then s32 (A64 op (s32 a) (b % 32)) else if op = 41 then s32 (A64 41 (a % 4294967296) (b % 32)) else if op = 55 ∨ op = 57 then s32 (A64 op (a % 4294967296) (b % 4294967296)) else s32 (A64 op (s32 a) (s32 b))
theorem shift_le (a n : Int) (a0 : 0 ≤ a) : 0 ≤ a / 2 ^ (n % 64).toNat ∧ a / 2 ^ (n % 64).toNat ≤ a :=
  ⟨Int.ediv_nonneg a0 (by exact Int.le_of_lt (Int.pow_pos (by decide))), Int.ediv_le_self _ a0⟩
theorem dvu_range {a b : Int} (a0 : 0 ≤ a) (a1 : a < 18446744073709551616) (b0 : 0 ≤ b) : 0 ≤ dvu a b ∧ dvu a b < 18446744073709551616 := by
  unfold dvu
  split
  · omega
  · have t : a / b ≤ a := Int.ediv_le_self _ a0
    have u : 0 ≤ a / b := Int.ediv_nonneg a0 b0
    omega
theorem rmu_range {a b : Int} (a0 : 0 ≤ a) (a1 : a < 18446744073709551616) (b0 : 0 ≤ b) (b1 : b < 18446744073709551616) : 0 ≤ rmu a b ∧ rmu a b < 18446744073709551616 := by
  unfold rmu
  split
  · omega
  · rename_i h
    have u : 0 ≤ a % b := Int.emod_nonneg _ h
    have v : a % b < b := Int.emod_lt_of_pos _ (by omega)
    omega
theorem dv_range (a b : Int) : 0 ≤ dv a b ∧ dv a b < 18446744073709551616 := by
  unfold dv
  split
  · omega
  · exact wrap_range _
theorem rm_range {a : Int} (b : Int) (a0 : 0 ≤ a) (a1 : a < 18446744073709551616) : 0 ≤ rm a b ∧ rm a b < 18446744073709551616 := by
  unfold rm
  split
  · omega
  · exact wrap_range _
/-- Operations that narrow is asked for. -/
def isQ (op : Int) : Prop := op = 35 ∨ op = 36 ∨ op = 37 ∨ op = 41 ∨ op = 42 ∨ op = 50 ∨ op = 54 ∨ op = 55 ∨ op = 56 ∨ op = 57
theorem A_range (op a b : Int) (h : isQ op) (a0 : 0 ≤ a) (a1 : a < 18446744073709551616) (b0 : 0 ≤ b) (b1 : b < 18446744073709551616) : 0 ≤ A64 op a b ∧ A64 op a b < 18446744073709551616 := by
  rcases h with rfl | rfl | rfl | rfl | rfl | rfl | rfl | rfl | rfl | rfl
  · exact wrap_range _
  · exact wrap_range _
  · exact wrap_range _
  · have := shift_le a b a0
    rw [A_41]
    omega
  · exact wrap_range _
  · exact wrap_range _
  · exact dv_range a b
  · exact dvu_range a0 a1 b0
  · exact rm_range b a0 a1
  · exact rmu_range a0 a1 b0 b1
theorem sign_lo (x : Int) (w : World) : Calls Tryd.prog 37 #[.int .u64 (x % 4294967296), .int .u64 32] w fun e w' => e = .returned (.int .u64 (s32 x)) ∧ w' = w := by
  have t := sign37 (x % 4294967296) (by omega) (by omega) w
  rw [s32_mod] at t
  exact t
set_option maxRecDepth 20000 in
set_option maxHeartbeats 4000000 in
theorem nar_37 (a b z : Int) (a0 : 0 ≤ a) (a1 : a < 18446744073709551616) (b0 : 0 ≤ b) (b1 : b < 18446744073709551616) (z0 : 0 ≤ z) (z1 : z < 18446744073709551616) (hz : ∀ w, Calls Tryd.prog 24 #[.int .i64 37, .int .u64 (s32 a), .int .u64 (b % 32)] w fun e w' => e = .returned (.int .u64 z) ∧ w' = w) (w : World) : Calls Tryd.prog 23 #[.int .i64 37, .int .u64 a, .int .u64 b] w fun e w' => e = .returned (.int .u64 (s32 z)) ∧ w' = w := by
  have hla := lo32 a0 a1
  have hlb := lo32 b0 b1
  have hl5 := lo5 b0 b1
  have hv := lo32 z0 z1
  have HZ : Hid (∀ w, Calls Tryd.prog 24 #[.int .i64 37, .int .u64 (s32 a), .int .u64 (b % 32)] w fun e w' => e = .returned (.int .u64 z) ∧ w' = w) := hz
  clear hz
  go_enter Tryd.func23, Tryd.ntmps23
  go_wp2_with (first | (go_at_call 37; refine (sign_lo _ _).mono ?_; rintro e w' ⟨rfl, rfl⟩) | (go_at_call 24; refine (HZ.out _).mono ?_; rintro e w' ⟨rfl, rfl⟩) | fail)
  go_ret
  exact ⟨rfl, rfl⟩
set_option maxRecDepth 20000 in
set_option maxHeartbeats 4000000 in
theorem nar_42 (a b z : Int) (a0 : 0 ≤ a) (a1 : a < 18446744073709551616) (b0 : 0 ≤ b) (b1 : b < 18446744073709551616) (z0 : 0 ≤ z) (z1 : z < 18446744073709551616) (hz : ∀ w, Calls Tryd.prog 24 #[.int .i64 42, .int .u64 (s32 a), .int .u64 (b % 32)] w fun e w' => e = .returned (.int .u64 z) ∧ w' = w) (w : World) : Calls Tryd.prog 23 #[.int .i64 42, .int .u64 a, .int .u64 b] w fun e w' => e = .returned (.int .u64 (s32 z)) ∧ w' = w := by
  have hla := lo32 a0 a1
  have hlb := lo32 b0 b1
  have hl5 := lo5 b0 b1
  have hv := lo32 z0 z1
  have HZ : Hid (∀ w, Calls Tryd.prog 24 #[.int .i64 42, .int .u64 (s32 a), .int .u64 (b % 32)] w fun e w' => e = .returned (.int .u64 z) ∧ w' = w) := hz
  clear hz
  go_enter Tryd.func23, Tryd.ntmps23
  go_wp2_with (first | (go_at_call 37; refine (sign_lo _ _).mono ?_; rintro e w' ⟨rfl, rfl⟩) | (go_at_call 24; refine (HZ.out _).mono ?_; rintro e w' ⟨rfl, rfl⟩) | fail)
  go_ret
  exact ⟨rfl, rfl⟩
set_option maxRecDepth 20000 in
set_option maxHeartbeats 4000000 in
theorem nar_41 (a b z : Int) (a0 : 0 ≤ a) (a1 : a < 18446744073709551616) (b0 : 0 ≤ b) (b1 : b < 18446744073709551616) (z0 : 0 ≤ z) (z1 : z < 4294967296) (hz : ∀ w, Calls Tryd.prog 24 #[.int .i64 41, .int .u64 (a % 4294967296), .int .u64 (b % 32)] w fun e w' => e = .returned (.int .u64 z) ∧ w' = w) (w : World) : Calls Tryd.prog 23 #[.int .i64 41, .int .u64 a, .int .u64 b] w fun e w' => e = .returned (.int .u64 (s32 z)) ∧ w' = w := by
  have hla := lo32 a0 a1
  have hlb := lo32 b0 b1
  have hl5 := lo5 b0 b1
  have HZ : Hid (∀ w, Calls Tryd.prog 24 #[.int .i64 41, .int .u64 (a % 4294967296), .int .u64 (b % 32)] w fun e w' => e = .returned (.int .u64 z) ∧ w' = w) := hz
  clear hz
  go_enter Tryd.func23, Tryd.ntmps23
  go_wp2_with fail
  refine (sign_lo a _).mono ?_
  rintro e w1 ⟨rfl, hw⟩
  subst hw
  go_wp2_with fail
  refine (sign_lo b _).mono ?_
  rintro e w2 ⟨rfl, hw⟩
  subst hw
  go_wp2_with fail
  refine (HZ.out _).mono ?_
  rintro e w3 ⟨rfl, hw⟩
  subst hw
  go_wp2_with fail
  refine (sign37 z z0 z1 _).mono ?_
  rintro e w4 ⟨rfl, hw⟩
  subst hw
  go_wp2
  go_ret
  exact ⟨rfl, rfl⟩
set_option maxRecDepth 20000 in
set_option maxHeartbeats 4000000 in
theorem nar_55 (a b z : Int) (a0 : 0 ≤ a) (a1 : a < 18446744073709551616) (b0 : 0 ≤ b) (b1 : b < 18446744073709551616) (z0 : 0 ≤ z) (z1 : z < 18446744073709551616) (hz : ∀ w, Calls Tryd.prog 24 #[.int .i64 55, .int .u64 (a % 4294967296), .int .u64 (b % 4294967296)] w fun e w' => e = .returned (.int .u64 z) ∧ w' = w) (w : World) : Calls Tryd.prog 23 #[.int .i64 55, .int .u64 a, .int .u64 b] w fun e w' => e = .returned (.int .u64 (s32 z)) ∧ w' = w := by
  have hla := lo32 a0 a1
  have hlb := lo32 b0 b1
  have hl5 := lo5 b0 b1
  have hv := lo32 z0 z1
  have HZ : Hid (∀ w, Calls Tryd.prog 24 #[.int .i64 55, .int .u64 (a % 4294967296), .int .u64 (b % 4294967296)] w fun e w' => e = .returned (.int .u64 z) ∧ w' = w) := hz
  clear hz
  go_enter Tryd.func23, Tryd.ntmps23
  go_wp2_with (first | (go_at_call 37; refine (sign_lo _ _).mono ?_; rintro e w' ⟨rfl, rfl⟩) | (go_at_call 24; refine (HZ.out _).mono ?_; rintro e w' ⟨rfl, rfl⟩) | fail)
  go_ret
  exact ⟨rfl, rfl⟩
set_option maxRecDepth 20000 in
set_option maxHeartbeats 4000000 in
theorem nar_57 (a b z : Int) (a0 : 0 ≤ a) (a1 : a < 18446744073709551616) (b0 : 0 ≤ b) (b1 : b < 18446744073709551616) (z0 : 0 ≤ z) (z1 : z < 18446744073709551616) (hz : ∀ w, Calls Tryd.prog 24 #[.int .i64 57, .int .u64 (a % 4294967296), .int .u64 (b % 4294967296)] w fun e w' => e = .returned (.int .u64 z) ∧ w' = w) (w : World) : Calls Tryd.prog 23 #[.int .i64 57, .int .u64 a, .int .u64 b] w fun e w' => e = .returned (.int .u64 (s32 z)) ∧ w' = w := by
  have hla := lo32 a0 a1
  have hlb := lo32 b0 b1
  have hl5 := lo5 b0 b1
  have hv := lo32 z0 z1
  have HZ : Hid (∀ w, Calls Tryd.prog 24 #[.int .i64 57, .int .u64 (a % 4294967296), .int .u64 (b % 4294967296)] w fun e w' => e = .returned (.int .u64 z) ∧ w' = w) := hz
  clear hz
  go_enter Tryd.func23, Tryd.ntmps23
  go_wp2_with (first | (go_at_call 37; refine (sign_lo _ _).mono ?_; rintro e w' ⟨rfl, rfl⟩) | (go_at_call 24; refine (HZ.out _).mono ?_; rintro e w' ⟨rfl, rfl⟩) | fail)
  go_ret
  exact ⟨rfl, rfl⟩
set_option maxRecDepth 20000 in
set_option maxHeartbeats 4000000 in
theorem nar_o (op a b z : Int) (h : op = 35 ∨ op = 36 ∨ op = 50 ∨ op = 54 ∨ op = 56) (a0 : 0 ≤ a) (a1 : a < 18446744073709551616) (b0 : 0 ≤ b) (b1 : b < 18446744073709551616) (z0 : 0 ≤ z) (z1 : z < 18446744073709551616) (hz : ∀ w, Calls Tryd.prog 24 #[.int .i64 op, .int .u64 (s32 a), .int .u64 (s32 b)] w fun e w' => e = .returned (.int .u64 z) ∧ w' = w) (w : World) : Calls Tryd.prog 23 #[.int .i64 op, .int .u64 a, .int .u64 b] w fun e w' => e = .returned (.int .u64 (s32 z)) ∧ w' = w := by
  have n37 : (op == 37) = false := by rcases h with rfl | rfl | rfl | rfl | rfl <;> rfl
  have n42 : (op == 42) = false := by rcases h with rfl | rfl | rfl | rfl | rfl <;> rfl
  have n41 : (op == 41) = false := by rcases h with rfl | rfl | rfl | rfl | rfl <;> rfl
  have n55 : (op == 55) = false := by rcases h with rfl | rfl | rfl | rfl | rfl <;> rfl
  have n57 : (op == 57) = false := by rcases h with rfl | rfl | rfl | rfl | rfl <;> rfl
  have hla := lo32 a0 a1
  have hlb := lo32 b0 b1
  have hl5 := lo5 b0 b1
  have hv := lo32 z0 z1
  have HZ : Hid (∀ w, Calls Tryd.prog 24 #[.int .i64 op, .int .u64 (s32 a), .int .u64 (s32 b)] w fun e w' => e = .returned (.int .u64 z) ∧ w' = w) := hz
  clear hz
  go_enter Tryd.func23, Tryd.ntmps23
  go_wp2_with (first | (go_at_call 37; refine (sign_lo _ _).mono ?_; rintro e w' ⟨rfl, rfl⟩) | (go_at_call 24; refine (HZ.out _).mono ?_; rintro e w' ⟨rfl, rfl⟩) | fail)
  go_ret
  exact ⟨rfl, rfl⟩
theorem narrow23 (op a b : Int) (h : isQ op) (a0 : 0 ≤ a) (a1 : a < 18446744073709551616) (b0 : 0 ≤ b) (b1 : b < 18446744073709551616) (w : World) : Calls Tryd.prog 23 #[.int .i64 op, .int .u64 a, .int .u64 b] w fun e w' => e = .returned (.int .u64 (Nv op a b)) ∧ w' = w := by
  have sa := s32_range a
  have sb := s32_range b
  have la := lo_range a
  have lb := lo_range b
  rcases h with rfl | rfl | rfl | rfl | rfl | rfl | rfl | rfl | rfl | rfl
  · have r := A_range 35 (s32 a) (s32 b) (by unfold isQ; omega) sa.1 sa.2 sb.1 sb.2
    exact nar_o 35 a b _ (by omega) a0 a1 b0 b1 r.1 r.2 (fun w => alu24 35 _ _ (by unfold isW; omega) sa.1 sa.2 sb.1 sb.2 w) w
  · have r := A_range 36 (s32 a) (s32 b) (by unfold isQ; omega) sa.1 sa.2 sb.1 sb.2
    exact nar_o 36 a b _ (by omega) a0 a1 b0 b1 r.1 r.2 (fun w => alu24 36 _ _ (by unfold isW; omega) sa.1 sa.2 sb.1 sb.2 w) w
  · have r := A_range 37 (s32 a) (b % 32) (by unfold isQ; omega) sa.1 sa.2 (by omega) (by omega)
    exact nar_37 a b _ a0 a1 b0 b1 r.1 r.2 (fun w => alu24 37 _ _ (by unfold isW; omega) sa.1 sa.2 (by omega) (by omega) w) w
  · have r := shift_le (a % 4294967296) (b % 32) la.1
    have r2 : A64 41 (a % 4294967296) (b % 32) < 4294967296 := by rw [A_41]; omega
    exact nar_41 a b _ a0 a1 b0 b1 r.1 r2 (fun w => alu24 41 _ _ (by unfold isW; omega) la.1 la.2 (by omega) (by omega) w) w
  · have r := A_range 42 (s32 a) (b % 32) (by unfold isQ; omega) sa.1 sa.2 (by omega) (by omega)
    exact nar_42 a b _ a0 a1 b0 b1 r.1 r.2 (fun w => alu24 42 _ _ (by unfold isW; omega) sa.1 sa.2 (by omega) (by omega) w) w
  · have r := A_range 50 (s32 a) (s32 b) (by unfold isQ; omega) sa.1 sa.2 sb.1 sb.2
    exact nar_o 50 a b _ (by omega) a0 a1 b0 b1 r.1 r.2 (fun w => alu24 50 _ _ (by unfold isW; omega) sa.1 sa.2 sb.1 sb.2 w) w
  · have r := A_range 54 (s32 a) (s32 b) (by unfold isQ; omega) sa.1 sa.2 sb.1 sb.2
    exact nar_o 54 a b _ (by omega) a0 a1 b0 b1 r.1 r.2 (fun w => alu24 54 _ _ (by unfold isW; omega) sa.1 sa.2 sb.1 sb.2 w) w
  · have r := A_range 55 (a % 4294967296) (b % 4294967296) (by unfold isQ; omega) la.1 la.2 lb.1 lb.2
    exact nar_55 a b _ a0 a1 b0 b1 r.1 r.2 (fun w => alu24 55 _ _ (by unfold isW; omega) la.1 la.2 lb.1 lb.2 w) w
  · have r := A_range 56 (s32 a) (s32 b) (by unfold isQ; omega) sa.1 sa.2 sb.1 sb.2
    exact nar_o 56 a b _ (by omega) a0 a1 b0 b1 r.1 r.2 (fun w => alu24 56 _ _ (by unfold isW; omega) sa.1 sa.2 sb.1 sb.2 w) w
  · have r := A_range 57 (a % 4294967296) (b % 4294967296) (by unfold isQ; omega) la.1 la.2 lb.1 lb.2
    exact nar_57 a b _ a0 a1 b0 b1 r.1 r.2 (fun w => alu24 57 _ _ (by unfold isW; omega) la.1 la.2 lb.1 lb.2 w) w
end Go.Proofs.YtnmpbihpoefeoaaDoor
