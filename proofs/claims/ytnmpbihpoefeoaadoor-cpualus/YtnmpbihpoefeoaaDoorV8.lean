/- Operations of two numbers: the document's Alu, whole. -/
import Derived.Test.YtnmpbihpoefeoaaDoorV6
namespace Go.Proofs.YtnmpbihpoefeoaaDoor
open Go.RowKit Go.Shelf
set_option maxHeartbeats 1000000 in
theorem wide22_m (op : Int) (h1 : 35 ≤ op) (h2 : op ≤ 44) (w : World) : Calls Tryd.prog 22 #[.int .i64 op] w fun e w' => e = .returned (.tuple #[.int .i64 op, .bool false]) ∧ Below w.heap.size w w' := by
  go_enter Tryd.func22, Tryd.ntmps22
  go_wp2
  go_ret2
  exact ⟨rfl, Below.refl _ w⟩
set_option maxHeartbeats 1000000 in
theorem wide22_n (op : Int) (h1 : 50 ≤ op) (h2 : op ≤ 57) (w : World) : Calls Tryd.prog 22 #[.int .i64 op] w fun e w' => e = .returned (.tuple #[.int .i64 op, .bool false]) ∧ Below w.heap.size w w' := by
  go_enter Tryd.func22, Tryd.ntmps22
  go_wp2
  go_ret2
  exact ⟨rfl, Below.refl _ w⟩
theorem wOf_same (op : Int) (h : isW op) : wOf op = op := by
  unfold isW at h
  unfold wOf
  repeat rw [if_neg (by omega)]
theorem isN_same (op : Int) (h : isW op) : isN32 op = false := by
  unfold isW at h
  unfold isN32
  simp
  omega
theorem wide22 (op : Int) (h1 : 22 ≤ op) (h2 : op ≤ 62) (w : World) : Calls Tryd.prog 22 #[.int .i64 op] w fun e w' => e = .returned (.tuple #[.int .i64 (wOf op), .bool (isN32 op)]) ∧ Below w.heap.size w w' := by
  by_cases h : isW op
  · rw [wOf_same op h, isN_same op h]
    rcases h with ⟨a, b⟩ | ⟨a, b⟩
    · exact wide22_m op a b w
    · exact wide22_n op a b w
  · unfold isW at h
    have hl : op = 22 ∨ op = 23 ∨ op = 24 ∨ op = 25 ∨ op = 26 ∨ op = 27 ∨ op = 28 ∨ op = 29 ∨ op = 30 ∨ op = 31 ∨ op = 32 ∨ op = 33 ∨ op = 34 ∨ op = 45 ∨ op = 46 ∨ op = 47 ∨ op = 48 ∨ op = 49 ∨ op = 58 ∨ op = 59 ∨ op = 60 ∨ op = 61 ∨ op = 62 := by omega
    rcases hl with rfl | rfl | rfl | rfl | rfl | rfl | rfl | rfl | rfl | rfl | rfl | rfl | rfl | rfl | rfl | rfl | rfl | rfl | rfl | rfl | rfl | rfl | rfl
    · exact wide22_22 w
    · exact wide22_23 w
    · exact wide22_24 w
    · exact wide22_25 w
    · exact wide22_26 w
    · exact wide22_27 w
    · exact wide22_28 w
    · exact wide22_29 w
    · exact wide22_30 w
    · exact wide22_31 w
    · exact wide22_32 w
    · exact wide22_33 w
    · exact wide22_34 w
    · exact wide22_45 w
    · exact wide22_46 w
    · exact wide22_47 w
    · exact wide22_48 w
    · exact wide22_49 w
    · exact wide22_58 w
    · exact wide22_59 w
    · exact wide22_60 w
    · exact wide22_61 w
    · exact wide22_62 w
/-- What Alu makes. -/
def Fv (op a b : Int) : Int := if isN32 op then s32 (Pv op a b) else Pv op a b
theorem add_cong (a b : Int) : s32 (IntKind.u64.wrap (s32 a + s32 b)) = s32 (IntKind.u64.wrap (a + b)) := s32_congr (by
  rw [wrap_cong, wrap_cong]
  have := s32_cong a
  have := s32_cong b
  omega)
theorem sub_cong (a b : Int) : s32 (IntKind.u64.wrap (s32 a - s32 b)) = s32 (IntKind.u64.wrap (a - b)) := s32_congr (by
  rw [wrap_cong, wrap_cong]
  have := s32_cong a
  have := s32_cong b
  omega)
theorem mul_cong (a b : Int) : s32 (IntKind.u64.wrap (s32 a * s32 b)) = s32 (IntKind.u64.wrap (a * b)) := s32_congr (by
  rw [wrap_cong, wrap_cong, Int.mul_emod, s32_cong, s32_cong, ← Int.mul_emod])
theorem sll_cong (a c : Int) : s32 (IntKind.u64.wrap (s32 a * c)) = s32 (IntKind.u64.wrap (a * c)) := s32_congr (by
  rw [wrap_cong, wrap_cong, Int.mul_emod, s32_cong, ← Int.mul_emod])
theorem nv_eq (op a b : Int) (h : isN32 op = true) : Nv (wOf op) a b = s32 (Pv op a b) := by
  have hl : op = 31 ∨ op = 32 ∨ op = 33 ∨ op = 34 ∨ op = 45 ∨ op = 46 ∨ op = 47 ∨ op = 48 ∨ op = 49 ∨ op = 58 ∨ op = 59 ∨ op = 60 ∨ op = 61 ∨ op = 62 := by unfold isN32 at h; simp at h; omega
  rcases hl with rfl | rfl | rfl | rfl | rfl | rfl | rfl | rfl | rfl | rfl | rfl | rfl | rfl | rfl
  · exact add_cong a b
  · exact sll_cong a _
  · exact rfl
  · exact rfl
  · exact add_cong a b
  · exact sub_cong a b
  · exact sll_cong a _
  · exact rfl
  · exact rfl
  · exact mul_cong a b
  · exact rfl
  · exact rfl
  · exact rfl
  · exact rfl
theorem isQ_of (op : Int) (h : isN32 op = true) : isQ (wOf op) := by
  have hl : op = 31 ∨ op = 32 ∨ op = 33 ∨ op = 34 ∨ op = 45 ∨ op = 46 ∨ op = 47 ∨ op = 48 ∨ op = 49 ∨ op = 58 ∨ op = 59 ∨ op = 60 ∨ op = 61 ∨ op = 62 := by unfold isN32 at h; simp at h; omega
  rcases hl with rfl | rfl | rfl | rfl | rfl | rfl | rfl | rfl | rfl | rfl | rfl | rfl | rfl | rfl <;> (unfold isQ; decide)
theorem isW_of (op a b : Int) (h1 : 22 ≤ op) (h2 : op ≤ 62) (h : isN32 op = false) : isW (wOf op) ∧ Pv op a b = A64 (wOf op) a b := by
  have hl : op = 22 ∨ op = 23 ∨ op = 24 ∨ op = 25 ∨ op = 26 ∨ op = 27 ∨ op = 28 ∨ op = 29 ∨ op = 30 ∨ op = 35 ∨ op = 36 ∨ op = 37 ∨ op = 38 ∨ op = 39 ∨ op = 40 ∨ op = 41 ∨ op = 42 ∨ op = 43 ∨ op = 44 ∨ op = 50 ∨ op = 51 ∨ op = 52 ∨ op = 53 ∨ op = 54 ∨ op = 55 ∨ op = 56 ∨ op = 57 := by unfold isN32 at h; simp at h; omega
  rcases hl with rfl | rfl | rfl | rfl | rfl | rfl | rfl | rfl | rfl | rfl | rfl | rfl | rfl | rfl | rfl | rfl | rfl | rfl | rfl | rfl | rfl | rfl | rfl | rfl | rfl | rfl | rfl <;> exact ⟨by unfold isW; decide, rfl⟩
set_option maxHeartbeats 1000000 in
theorem alu8_n (op a b : Int) (h1 : 22 ≤ op) (h2 : op ≤ 62) (h : isN32 op = true) (a0 : 0 ≤ a) (a1 : a < 18446744073709551616) (b0 : 0 ≤ b) (b1 : b < 18446744073709551616) (w : World) : Calls Tryd.prog 8 #[.int .i64 op, .int .u64 a, .int .u64 b] w fun e w' => e = .returned (.tuple #[.int .u64 (s32 (Pv op a b)), .int .i64 0]) ∧ Below w.heap.size w w' := by
  have HW : Hid (∀ w, Calls Tryd.prog 22 #[.int .i64 op] w fun e w' => e = .returned (.tuple #[.int .i64 (wOf op), .bool true]) ∧ Below w.heap.size w w') := fun w => by rw [← h]; exact wide22 op h1 h2 w
  have HN : Hid (∀ w, Calls Tryd.prog 23 #[.int .i64 (wOf op), .int .u64 a, .int .u64 b] w fun e w' => e = .returned (.int .u64 (s32 (Pv op a b))) ∧ w' = w) := fun w => by rw [← nv_eq op a b h]; exact narrow23 _ a b (isQ_of op h) a0 a1 b0 b1 w
  clear h
  generalize wOf op = q at *
  generalize s32 (Pv op a b) = z at *
  go_enter Tryd.func8, Tryd.ntmps8
  go_wp2_with fail
  refine (HW.out _).mono ?_
  rintro e w1 ⟨rfl, hb⟩
  have HB : Hid (Below w.heap.size w w1) := hb
  clear hb
  go_wp2_with fail
  refine (HN.out _).mono ?_
  rintro e w2 ⟨rfl, h2⟩
  subst h2
  go_wp2
  go_ret2
  exact ⟨rfl, HB.out⟩
set_option maxHeartbeats 1000000 in
theorem alu8_w (op a b : Int) (h1 : 22 ≤ op) (h2 : op ≤ 62) (h : isN32 op = false) (a0 : 0 ≤ a) (a1 : a < 18446744073709551616) (b0 : 0 ≤ b) (b1 : b < 18446744073709551616) (w : World) : Calls Tryd.prog 8 #[.int .i64 op, .int .u64 a, .int .u64 b] w fun e w' => e = .returned (.tuple #[.int .u64 (Pv op a b), .int .i64 0]) ∧ Below w.heap.size w w' := by
  obtain ⟨hw, hp⟩ := isW_of op a b h1 h2 h
  have HW : Hid (∀ w, Calls Tryd.prog 22 #[.int .i64 op] w fun e w' => e = .returned (.tuple #[.int .i64 (wOf op), .bool false]) ∧ Below w.heap.size w w') := fun w => by rw [← h]; exact wide22 op h1 h2 w
  have HN : Hid (∀ w, Calls Tryd.prog 24 #[.int .i64 (wOf op), .int .u64 a, .int .u64 b] w fun e w' => e = .returned (.int .u64 (Pv op a b)) ∧ w' = w) := fun w => by rw [hp]; exact alu24 _ a b hw a0 a1 b0 b1 w
  clear h hw hp
  generalize wOf op = q at *
  generalize Pv op a b = z at *
  go_enter Tryd.func8, Tryd.ntmps8
  go_wp2_with fail
  refine (HW.out _).mono ?_
  rintro e w1 ⟨rfl, hb⟩
  have HB : Hid (Below w.heap.size w w1) := hb
  clear hb
  go_wp2_with fail
  refine (HN.out _).mono ?_
  rintro e w2 ⟨rfl, h2⟩
  subst h2
  go_wp2
  go_ret2
  exact ⟨rfl, HB.out⟩
set_option maxHeartbeats 1000000 in
theorem alu8_o (op a b : Int) (h : op < 22 ∨ 62 < op) (w : World) : Calls Tryd.prog 8 #[.int .i64 op, .int .u64 a, .int .u64 b] w fun e w' => e = .returned (.tuple #[.int .u64 0, .int .i64 1]) ∧ w' = w := by
  rcases h with h | h
  · go_enter Tryd.func8, Tryd.ntmps8
    go_wp2
    go_ret2
    exact ⟨rfl, rfl⟩
  · go_enter Tryd.func8, Tryd.ntmps8
    go_wp2
    go_ret2
    exact ⟨rfl, rfl⟩
set_option maxHeartbeats 1000000 in
theorem alu7_o (op a b : Int) (h : op < 22 ∨ 62 < op) (w : World) : Calls Tryd.prog 7 #[.int .i64 op, .int .u64 a, .int .u64 b] w fun e w' => e = .returned (.tuple #[.int .u64 0, .int .i64 1]) ∧ w' = w := by
  rcases h with h | h
  · go_enter Tryd.func7, Tryd.ntmps7
    go_wp2
    go_ret2
    exact ⟨rfl, rfl⟩
  · go_enter Tryd.func7, Tryd.ntmps7
    go_wp2
    go_ret2
    exact ⟨rfl, rfl⟩
set_option maxHeartbeats 1000000 in
theorem alu7_any (op a b : Int) (h1 : 22 ≤ op) (h2 : op ≤ 62) (w : World) (hs : Calls Tryd.prog 20 #[.int .i64 op, .int .u64 a, .int .u64 b] w fun e w' => e = .returned (.tuple #[.int .u64 (Pv op a b), .bool (isN32 op)]) ∧ ∃ m, w' = w.drewN m) : Calls Tryd.prog 7 #[.int .i64 op, .int .u64 a, .int .u64 b] w fun e w' => e = .returned (.tuple #[.int .u64 (Fv op a b), .int .i64 0]) ∧ ∃ m, w' = w.drewN m := by
  unfold Fv
  have HS : Hid (Calls Tryd.prog 20 #[.int .i64 op, .int .u64 a, .int .u64 b] w fun e w' => e = .returned (.tuple #[.int .u64 (Pv op a b), .bool (isN32 op)]) ∧ ∃ m, w' = w.drewN m) := hs
  clear hs
  generalize Pv op a b = z at *
  cases hn : isN32 op
  · rw [hn] at HS
    go_enter Tryd.func7, Tryd.ntmps7
    go_wp2_with fail
    refine HS.out.mono ?_
    rintro e w1 ⟨rfl, m, rfl⟩
    go_wp2
    go_ret2
    exact ⟨rfl, m, rfl⟩
  · rw [hn] at HS
    go_enter Tryd.func7, Tryd.ntmps7
    go_wp2_with fail
    refine HS.out.mono ?_
    rintro e w1 ⟨rfl, m, rfl⟩
    go_wp2_with ((go_at_call 21; refine (signed21 _ _).mono ?_; rintro e w' ⟨rfl, h2⟩; subst h2))
    go_ret2
    exact ⟨rfl, m, rfl⟩
end Go.Proofs.YtnmpbihpoefeoaaDoor
