/- The walk of the statement RvApart: the same instruction, instructions that are not right; all together. -/
import Derived.Test.YtndbkkldfinggaaDoorS6
namespace Go.Proofs.YtndbkkldfinggaaDoor
open Go.RowKit
theorem Tab.new2 {w : World} (h : Tab w) (o p : Obj) : Tab ((w.alloc o).alloc p) := (h.new o).new p
set_option maxHeartbeats 2000000 in
theorem apart_same (op rd r1 r2 n : Int) (w : World) (hT : Tab w) :
    Calls Tryd.prog 7 #[.agg #[.int .i64 op, .int .i64 rd, .int .i64 r1, .int .i64 r2, .int .i64 n], .agg #[.int .i64 op, .int .i64 rd, .int .i64 r1, .int .i64 r2, .int .i64 n]] w fun e w' => e = .returned (.bool true) ∧ Below w.heap.size w w' := by
  have HT : Hid (Tab w) := hT
  clear hT
  go_enter Tryd.func7, Tryd.ntmps7
  go_wp2_with fail
  refine (small12 _ (HT.out.new2 _ _)).mono ?_
  rintro e w1 ⟨rfl, hb⟩
  go_wp2
  go_ret
  exact ⟨rfl, belowAA hb⟩
set_option maxHeartbeats 2000000 in
theorem apart_a0 (op rd r1 r2 n op' rd' r1' r2' n' : Int) (h : rightB op rd r1 r2 n = false) (hne : ¬ op = op') (w : World) (hT : Tab w) :
    Calls Tryd.prog 7 #[.agg #[.int .i64 op, .int .i64 rd, .int .i64 r1, .int .i64 r2, .int .i64 n], .agg #[.int .i64 op', .int .i64 rd', .int .i64 r1', .int .i64 r2', .int .i64 n']] w fun e w' => e = .returned (.bool true) ∧ Below w.heap.size w w' := by
  have HT : Hid (Tab w) := hT
  have R1 : Hid (∀ (W : World), Calls Tryd.prog 24 #[.agg #[.int .i64 op, .int .i64 rd, .int .i64 r1, .int .i64 r2, .int .i64 n]] W fun e w' => e = .returned (.bool false) ∧ Below W.heap.size W w') := fun W => by have t := right24 op rd r1 r2 n W; rw [h] at t; exact t
  clear hT h
  go_enter Tryd.func7, Tryd.ntmps7
  go_wp2_with fail
  refine (R1.out _).mono ?_
  rintro e w1 ⟨rfl, hb⟩
  have HB1 : Hid (Below w.heap.size w w1) := belowAA hb
  have l1 : w.heap.size < w1.heap.size := by have := hb.size; simp at this; omega
  clear hb
  go_wp2_with fail
  refine (small12 _ (HT.out.below HB1.out)).mono ?_
  rintro e w2 ⟨rfl, hb⟩
  go_wp2
  go_ret
  exact ⟨rfl, HB1.out.trans (hb.mono (by omega))⟩
set_option maxHeartbeats 2000000 in
theorem apart_b0 (op rd r1 r2 n op' rd' r1' r2' n' : Int) (h : rightB op rd r1 r2 n = true) (h' : rightB op' rd' r1' r2' n' = false) (hne : ¬ op = op') (w : World) (hT : Tab w) :
    Calls Tryd.prog 7 #[.agg #[.int .i64 op, .int .i64 rd, .int .i64 r1, .int .i64 r2, .int .i64 n], .agg #[.int .i64 op', .int .i64 rd', .int .i64 r1', .int .i64 r2', .int .i64 n']] w fun e w' => e = .returned (.bool true) ∧ Below w.heap.size w w' := by
  have HT : Hid (Tab w) := hT
  have R1 : Hid (∀ (W : World), Calls Tryd.prog 24 #[.agg #[.int .i64 op, .int .i64 rd, .int .i64 r1, .int .i64 r2, .int .i64 n]] W fun e w' => e = .returned (.bool true) ∧ Below W.heap.size W w') := fun W => by have t := right24 op rd r1 r2 n W; rw [h] at t; exact t
  have R2 : Hid (∀ (W : World), Calls Tryd.prog 24 #[.agg #[.int .i64 op', .int .i64 rd', .int .i64 r1', .int .i64 r2', .int .i64 n']] W fun e w' => e = .returned (.bool false) ∧ Below W.heap.size W w') := fun W => by have t := right24 op' rd' r1' r2' n' W; rw [h'] at t; exact t
  clear hT h h'
  go_enter Tryd.func7, Tryd.ntmps7
  go_wp2_with fail
  refine (R1.out _).mono ?_
  rintro e w1 ⟨rfl, hb⟩
  obtain ⟨-, b0, b1, b2, b3, b4, b5⟩ := box55 w (.int .i64 op) (.int .i64 rd) (.int .i64 r1) (.int .i64 r2) (.int .i64 n) (.int .i64 op') (.int .i64 rd') (.int .i64 r1') (.int .i64 r2') (.int .i64 n') 23 23
  obtain ⟨d0, d1, d2, d3, d4, d5⟩ := keepB b5 hb b0 b1 b2 b3 b4
  have HB1 : Hid (Below w.heap.size w w1) := belowAA hb
  clear b0 b1 b2 b3 b4 b5 hb
  go_wp2_with fail
  refine (R2.out _).mono ?_
  rintro e w2 ⟨rfl, hb⟩
  have HB2 : Hid (Below w.heap.size w w2) := HB1.out.trans (hb.mono (by omega))
  have l2 : w.heap.size < w2.heap.size := by have := hb.size; omega
  clear d0 d1 d2 d3 d4 d5 hb HB1
  go_wp2_with fail
  refine (small12 _ (HT.out.below HB2.out)).mono ?_
  rintro e w3 ⟨rfl, hb⟩
  go_wp2
  go_ret
  exact ⟨rfl, HB2.out.trans (hb.mono (by omega))⟩
set_option maxHeartbeats 2000000 in
theorem apart_a1 (op rd r1 r2 n rd' r1' r2' n' : Int) (h : rightB op rd r1 r2 n = false) (hne : ¬ rd = rd') (w : World) (hT : Tab w) :
    Calls Tryd.prog 7 #[.agg #[.int .i64 op, .int .i64 rd, .int .i64 r1, .int .i64 r2, .int .i64 n], .agg #[.int .i64 op, .int .i64 rd', .int .i64 r1', .int .i64 r2', .int .i64 n']] w fun e w' => e = .returned (.bool true) ∧ Below w.heap.size w w' := by
  have HT : Hid (Tab w) := hT
  have R1 : Hid (∀ (W : World), Calls Tryd.prog 24 #[.agg #[.int .i64 op, .int .i64 rd, .int .i64 r1, .int .i64 r2, .int .i64 n]] W fun e w' => e = .returned (.bool false) ∧ Below W.heap.size W w') := fun W => by have t := right24 op rd r1 r2 n W; rw [h] at t; exact t
  clear hT h
  go_enter Tryd.func7, Tryd.ntmps7
  go_wp2_with fail
  refine (R1.out _).mono ?_
  rintro e w1 ⟨rfl, hb⟩
  have HB1 : Hid (Below w.heap.size w w1) := belowAA hb
  have l1 : w.heap.size < w1.heap.size := by have := hb.size; simp at this; omega
  clear hb
  go_wp2_with fail
  refine (small12 _ (HT.out.below HB1.out)).mono ?_
  rintro e w2 ⟨rfl, hb⟩
  go_wp2
  go_ret
  exact ⟨rfl, HB1.out.trans (hb.mono (by omega))⟩
set_option maxHeartbeats 2000000 in
theorem apart_b1 (op rd r1 r2 n rd' r1' r2' n' : Int) (h : rightB op rd r1 r2 n = true) (h' : rightB op rd' r1' r2' n' = false) (hne : ¬ rd = rd') (w : World) (hT : Tab w) :
    Calls Tryd.prog 7 #[.agg #[.int .i64 op, .int .i64 rd, .int .i64 r1, .int .i64 r2, .int .i64 n], .agg #[.int .i64 op, .int .i64 rd', .int .i64 r1', .int .i64 r2', .int .i64 n']] w fun e w' => e = .returned (.bool true) ∧ Below w.heap.size w w' := by
  have HT : Hid (Tab w) := hT
  have R1 : Hid (∀ (W : World), Calls Tryd.prog 24 #[.agg #[.int .i64 op, .int .i64 rd, .int .i64 r1, .int .i64 r2, .int .i64 n]] W fun e w' => e = .returned (.bool true) ∧ Below W.heap.size W w') := fun W => by have t := right24 op rd r1 r2 n W; rw [h] at t; exact t
  have R2 : Hid (∀ (W : World), Calls Tryd.prog 24 #[.agg #[.int .i64 op, .int .i64 rd', .int .i64 r1', .int .i64 r2', .int .i64 n']] W fun e w' => e = .returned (.bool false) ∧ Below W.heap.size W w') := fun W => by have t := right24 op rd' r1' r2' n' W; rw [h'] at t; exact t
  clear hT h h'
  go_enter Tryd.func7, Tryd.ntmps7
  go_wp2_with fail
  refine (R1.out _).mono ?_
  rintro e w1 ⟨rfl, hb⟩
  obtain ⟨-, b0, b1, b2, b3, b4, b5⟩ := box55 w (.int .i64 op) (.int .i64 rd) (.int .i64 r1) (.int .i64 r2) (.int .i64 n) (.int .i64 op) (.int .i64 rd') (.int .i64 r1') (.int .i64 r2') (.int .i64 n') 23 23
  obtain ⟨d0, d1, d2, d3, d4, d5⟩ := keepB b5 hb b0 b1 b2 b3 b4
  have HB1 : Hid (Below w.heap.size w w1) := belowAA hb
  clear b0 b1 b2 b3 b4 b5 hb
  go_wp2_with fail
  refine (R2.out _).mono ?_
  rintro e w2 ⟨rfl, hb⟩
  have HB2 : Hid (Below w.heap.size w w2) := HB1.out.trans (hb.mono (by omega))
  have l2 : w.heap.size < w2.heap.size := by have := hb.size; omega
  clear d0 d1 d2 d3 d4 d5 hb HB1
  go_wp2_with fail
  refine (small12 _ (HT.out.below HB2.out)).mono ?_
  rintro e w3 ⟨rfl, hb⟩
  go_wp2
  go_ret
  exact ⟨rfl, HB2.out.trans (hb.mono (by omega))⟩
set_option maxHeartbeats 2000000 in
theorem apart_a2 (op rd r1 r2 n r1' r2' n' : Int) (h : rightB op rd r1 r2 n = false) (hne : ¬ r1 = r1') (w : World) (hT : Tab w) :
    Calls Tryd.prog 7 #[.agg #[.int .i64 op, .int .i64 rd, .int .i64 r1, .int .i64 r2, .int .i64 n], .agg #[.int .i64 op, .int .i64 rd, .int .i64 r1', .int .i64 r2', .int .i64 n']] w fun e w' => e = .returned (.bool true) ∧ Below w.heap.size w w' := by
  have HT : Hid (Tab w) := hT
  have R1 : Hid (∀ (W : World), Calls Tryd.prog 24 #[.agg #[.int .i64 op, .int .i64 rd, .int .i64 r1, .int .i64 r2, .int .i64 n]] W fun e w' => e = .returned (.bool false) ∧ Below W.heap.size W w') := fun W => by have t := right24 op rd r1 r2 n W; rw [h] at t; exact t
  clear hT h
  go_enter Tryd.func7, Tryd.ntmps7
  go_wp2_with fail
  refine (R1.out _).mono ?_
  rintro e w1 ⟨rfl, hb⟩
  have HB1 : Hid (Below w.heap.size w w1) := belowAA hb
  have l1 : w.heap.size < w1.heap.size := by have := hb.size; simp at this; omega
  clear hb
  go_wp2_with fail
  refine (small12 _ (HT.out.below HB1.out)).mono ?_
  rintro e w2 ⟨rfl, hb⟩
  go_wp2
  go_ret
  exact ⟨rfl, HB1.out.trans (hb.mono (by omega))⟩
set_option maxHeartbeats 2000000 in
theorem apart_b2 (op rd r1 r2 n r1' r2' n' : Int) (h : rightB op rd r1 r2 n = true) (h' : rightB op rd r1' r2' n' = false) (hne : ¬ r1 = r1') (w : World) (hT : Tab w) :
    Calls Tryd.prog 7 #[.agg #[.int .i64 op, .int .i64 rd, .int .i64 r1, .int .i64 r2, .int .i64 n], .agg #[.int .i64 op, .int .i64 rd, .int .i64 r1', .int .i64 r2', .int .i64 n']] w fun e w' => e = .returned (.bool true) ∧ Below w.heap.size w w' := by
  have HT : Hid (Tab w) := hT
  have R1 : Hid (∀ (W : World), Calls Tryd.prog 24 #[.agg #[.int .i64 op, .int .i64 rd, .int .i64 r1, .int .i64 r2, .int .i64 n]] W fun e w' => e = .returned (.bool true) ∧ Below W.heap.size W w') := fun W => by have t := right24 op rd r1 r2 n W; rw [h] at t; exact t
  have R2 : Hid (∀ (W : World), Calls Tryd.prog 24 #[.agg #[.int .i64 op, .int .i64 rd, .int .i64 r1', .int .i64 r2', .int .i64 n']] W fun e w' => e = .returned (.bool false) ∧ Below W.heap.size W w') := fun W => by have t := right24 op rd r1' r2' n' W; rw [h'] at t; exact t
  clear hT h h'
  go_enter Tryd.func7, Tryd.ntmps7
  go_wp2_with fail
  refine (R1.out _).mono ?_
  rintro e w1 ⟨rfl, hb⟩
  obtain ⟨-, b0, b1, b2, b3, b4, b5⟩ := box55 w (.int .i64 op) (.int .i64 rd) (.int .i64 r1) (.int .i64 r2) (.int .i64 n) (.int .i64 op) (.int .i64 rd) (.int .i64 r1') (.int .i64 r2') (.int .i64 n') 23 23
  obtain ⟨d0, d1, d2, d3, d4, d5⟩ := keepB b5 hb b0 b1 b2 b3 b4
  have HB1 : Hid (Below w.heap.size w w1) := belowAA hb
  clear b0 b1 b2 b3 b4 b5 hb
  go_wp2_with fail
  refine (R2.out _).mono ?_
  rintro e w2 ⟨rfl, hb⟩
  have HB2 : Hid (Below w.heap.size w w2) := HB1.out.trans (hb.mono (by omega))
  have l2 : w.heap.size < w2.heap.size := by have := hb.size; omega
  clear d0 d1 d2 d3 d4 d5 hb HB1
  go_wp2_with fail
  refine (small12 _ (HT.out.below HB2.out)).mono ?_
  rintro e w3 ⟨rfl, hb⟩
  go_wp2
  go_ret
  exact ⟨rfl, HB2.out.trans (hb.mono (by omega))⟩
set_option maxHeartbeats 2000000 in
theorem apart_a3 (op rd r1 r2 n r2' n' : Int) (h : rightB op rd r1 r2 n = false) (hne : ¬ r2 = r2') (w : World) (hT : Tab w) :
    Calls Tryd.prog 7 #[.agg #[.int .i64 op, .int .i64 rd, .int .i64 r1, .int .i64 r2, .int .i64 n], .agg #[.int .i64 op, .int .i64 rd, .int .i64 r1, .int .i64 r2', .int .i64 n']] w fun e w' => e = .returned (.bool true) ∧ Below w.heap.size w w' := by
  have HT : Hid (Tab w) := hT
  have R1 : Hid (∀ (W : World), Calls Tryd.prog 24 #[.agg #[.int .i64 op, .int .i64 rd, .int .i64 r1, .int .i64 r2, .int .i64 n]] W fun e w' => e = .returned (.bool false) ∧ Below W.heap.size W w') := fun W => by have t := right24 op rd r1 r2 n W; rw [h] at t; exact t
  clear hT h
  go_enter Tryd.func7, Tryd.ntmps7
  go_wp2_with fail
  refine (R1.out _).mono ?_
  rintro e w1 ⟨rfl, hb⟩
  have HB1 : Hid (Below w.heap.size w w1) := belowAA hb
  have l1 : w.heap.size < w1.heap.size := by have := hb.size; simp at this; omega
  clear hb
  go_wp2_with fail
  refine (small12 _ (HT.out.below HB1.out)).mono ?_
  rintro e w2 ⟨rfl, hb⟩
  go_wp2
  go_ret
  exact ⟨rfl, HB1.out.trans (hb.mono (by omega))⟩
set_option maxHeartbeats 2000000 in
theorem apart_b3 (op rd r1 r2 n r2' n' : Int) (h : rightB op rd r1 r2 n = true) (h' : rightB op rd r1 r2' n' = false) (hne : ¬ r2 = r2') (w : World) (hT : Tab w) :
    Calls Tryd.prog 7 #[.agg #[.int .i64 op, .int .i64 rd, .int .i64 r1, .int .i64 r2, .int .i64 n], .agg #[.int .i64 op, .int .i64 rd, .int .i64 r1, .int .i64 r2', .int .i64 n']] w fun e w' => e = .returned (.bool true) ∧ Below w.heap.size w w' := by
  have HT : Hid (Tab w) := hT
  have R1 : Hid (∀ (W : World), Calls Tryd.prog 24 #[.agg #[.int .i64 op, .int .i64 rd, .int .i64 r1, .int .i64 r2, .int .i64 n]] W fun e w' => e = .returned (.bool true) ∧ Below W.heap.size W w') := fun W => by have t := right24 op rd r1 r2 n W; rw [h] at t; exact t
  have R2 : Hid (∀ (W : World), Calls Tryd.prog 24 #[.agg #[.int .i64 op, .int .i64 rd, .int .i64 r1, .int .i64 r2', .int .i64 n']] W fun e w' => e = .returned (.bool false) ∧ Below W.heap.size W w') := fun W => by have t := right24 op rd r1 r2' n' W; rw [h'] at t; exact t
  clear hT h h'
  go_enter Tryd.func7, Tryd.ntmps7
  go_wp2_with fail
  refine (R1.out _).mono ?_
  rintro e w1 ⟨rfl, hb⟩
  obtain ⟨-, b0, b1, b2, b3, b4, b5⟩ := box55 w (.int .i64 op) (.int .i64 rd) (.int .i64 r1) (.int .i64 r2) (.int .i64 n) (.int .i64 op) (.int .i64 rd) (.int .i64 r1) (.int .i64 r2') (.int .i64 n') 23 23
  obtain ⟨d0, d1, d2, d3, d4, d5⟩ := keepB b5 hb b0 b1 b2 b3 b4
  have HB1 : Hid (Below w.heap.size w w1) := belowAA hb
  clear b0 b1 b2 b3 b4 b5 hb
  go_wp2_with fail
  refine (R2.out _).mono ?_
  rintro e w2 ⟨rfl, hb⟩
  have HB2 : Hid (Below w.heap.size w w2) := HB1.out.trans (hb.mono (by omega))
  have l2 : w.heap.size < w2.heap.size := by have := hb.size; omega
  clear d0 d1 d2 d3 d4 d5 hb HB1
  go_wp2_with fail
  refine (small12 _ (HT.out.below HB2.out)).mono ?_
  rintro e w3 ⟨rfl, hb⟩
  go_wp2
  go_ret
  exact ⟨rfl, HB2.out.trans (hb.mono (by omega))⟩
set_option maxHeartbeats 2000000 in
theorem apart_a4 (op rd r1 r2 n n' : Int) (h : rightB op rd r1 r2 n = false) (hne : ¬ n = n') (w : World) (hT : Tab w) :
    Calls Tryd.prog 7 #[.agg #[.int .i64 op, .int .i64 rd, .int .i64 r1, .int .i64 r2, .int .i64 n], .agg #[.int .i64 op, .int .i64 rd, .int .i64 r1, .int .i64 r2, .int .i64 n']] w fun e w' => e = .returned (.bool true) ∧ Below w.heap.size w w' := by
  have HT : Hid (Tab w) := hT
  have R1 : Hid (∀ (W : World), Calls Tryd.prog 24 #[.agg #[.int .i64 op, .int .i64 rd, .int .i64 r1, .int .i64 r2, .int .i64 n]] W fun e w' => e = .returned (.bool false) ∧ Below W.heap.size W w') := fun W => by have t := right24 op rd r1 r2 n W; rw [h] at t; exact t
  clear hT h
  go_enter Tryd.func7, Tryd.ntmps7
  go_wp2_with fail
  refine (R1.out _).mono ?_
  rintro e w1 ⟨rfl, hb⟩
  have HB1 : Hid (Below w.heap.size w w1) := belowAA hb
  have l1 : w.heap.size < w1.heap.size := by have := hb.size; simp at this; omega
  clear hb
  go_wp2_with fail
  refine (small12 _ (HT.out.below HB1.out)).mono ?_
  rintro e w2 ⟨rfl, hb⟩
  go_wp2
  go_ret
  exact ⟨rfl, HB1.out.trans (hb.mono (by omega))⟩
set_option maxHeartbeats 2000000 in
theorem apart_b4 (op rd r1 r2 n n' : Int) (h : rightB op rd r1 r2 n = true) (h' : rightB op rd r1 r2 n' = false) (hne : ¬ n = n') (w : World) (hT : Tab w) :
    Calls Tryd.prog 7 #[.agg #[.int .i64 op, .int .i64 rd, .int .i64 r1, .int .i64 r2, .int .i64 n], .agg #[.int .i64 op, .int .i64 rd, .int .i64 r1, .int .i64 r2, .int .i64 n']] w fun e w' => e = .returned (.bool true) ∧ Below w.heap.size w w' := by
  have HT : Hid (Tab w) := hT
  have R1 : Hid (∀ (W : World), Calls Tryd.prog 24 #[.agg #[.int .i64 op, .int .i64 rd, .int .i64 r1, .int .i64 r2, .int .i64 n]] W fun e w' => e = .returned (.bool true) ∧ Below W.heap.size W w') := fun W => by have t := right24 op rd r1 r2 n W; rw [h] at t; exact t
  have R2 : Hid (∀ (W : World), Calls Tryd.prog 24 #[.agg #[.int .i64 op, .int .i64 rd, .int .i64 r1, .int .i64 r2, .int .i64 n']] W fun e w' => e = .returned (.bool false) ∧ Below W.heap.size W w') := fun W => by have t := right24 op rd r1 r2 n' W; rw [h'] at t; exact t
  clear hT h h'
  go_enter Tryd.func7, Tryd.ntmps7
  go_wp2_with fail
  refine (R1.out _).mono ?_
  rintro e w1 ⟨rfl, hb⟩
  obtain ⟨-, b0, b1, b2, b3, b4, b5⟩ := box55 w (.int .i64 op) (.int .i64 rd) (.int .i64 r1) (.int .i64 r2) (.int .i64 n) (.int .i64 op) (.int .i64 rd) (.int .i64 r1) (.int .i64 r2) (.int .i64 n') 23 23
  obtain ⟨d0, d1, d2, d3, d4, d5⟩ := keepB b5 hb b0 b1 b2 b3 b4
  have HB1 : Hid (Below w.heap.size w w1) := belowAA hb
  clear b0 b1 b2 b3 b4 b5 hb
  go_wp2_with fail
  refine (R2.out _).mono ?_
  rintro e w2 ⟨rfl, hb⟩
  have HB2 : Hid (Below w.heap.size w w2) := HB1.out.trans (hb.mono (by omega))
  have l2 : w.heap.size < w2.heap.size := by have := hb.size; omega
  clear d0 d1 d2 d3 d4 d5 hb HB1
  go_wp2_with fail
  refine (small12 _ (HT.out.below HB2.out)).mono ?_
  rintro e w3 ⟨rfl, hb⟩
  go_wp2
  go_ret
  exact ⟨rfl, HB2.out.trans (hb.mono (by omega))⟩
/-- RvApart's walk. -/
theorem apart (op rd r1 r2 n op' rd' r1' r2' n' : Int) (w : World) (hT : Tab w) (hN : Nam w) (hP : Pow w) :
    Calls Tryd.prog 7 #[.agg #[.int .i64 op, .int .i64 rd, .int .i64 r1, .int .i64 r2, .int .i64 n], .agg #[.int .i64 op', .int .i64 rd', .int .i64 r1', .int .i64 r2', .int .i64 n']] w fun e w' => e = .returned (.bool true) ∧ Below w.heap.size w w' := by
  by_cases e0 : op = op'
  rotate_left
  · cases h : rightB op rd r1 r2 n
    · exact apart_a0 op rd r1 r2 n op' rd' r1' r2' n' h e0 w hT
    · cases h' : rightB op' rd' r1' r2' n'
      · exact apart_b0 op rd r1 r2 n op' rd' r1' r2' n' h h' e0 w hT
      · exact apart_0 op rd r1 r2 n op' rd' r1' r2' n' h h' e0 w hT hN hP
  subst e0
  by_cases e1 : rd = rd'
  rotate_left
  · cases h : rightB op rd r1 r2 n
    · exact apart_a1 op rd r1 r2 n rd' r1' r2' n' h e1 w hT
    · cases h' : rightB op rd' r1' r2' n'
      · exact apart_b1 op rd r1 r2 n rd' r1' r2' n' h h' e1 w hT
      · exact apart_1 op rd r1 r2 n rd' r1' r2' n' h h' e1 w hT hN hP
  subst e1
  by_cases e2 : r1 = r1'
  rotate_left
  · cases h : rightB op rd r1 r2 n
    · exact apart_a2 op rd r1 r2 n r1' r2' n' h e2 w hT
    · cases h' : rightB op rd r1' r2' n'
      · exact apart_b2 op rd r1 r2 n r1' r2' n' h h' e2 w hT
      · exact apart_2 op rd r1 r2 n r1' r2' n' h h' e2 w hT hN hP
  subst e2
  by_cases e3 : r2 = r2'
  rotate_left
  · cases h : rightB op rd r1 r2 n
    · exact apart_a3 op rd r1 r2 n r2' n' h e3 w hT
    · cases h' : rightB op rd r1 r2' n'
      · exact apart_b3 op rd r1 r2 n r2' n' h h' e3 w hT
      · exact apart_3 op rd r1 r2 n r2' n' h h' e3 w hT hN hP
  subst e3
  by_cases e4 : n = n'
  rotate_left
  · cases h : rightB op rd r1 r2 n
    · exact apart_a4 op rd r1 r2 n n' h e4 w hT
    · cases h' : rightB op rd r1 r2 n'
      · exact apart_b4 op rd r1 r2 n n' h h' e4 w hT
      · exact apart_4 op rd r1 r2 n n' h h' e4 w hT hN hP
  subst e4
  exact apart_same op rd r1 r2 n w hT
end Go.Proofs.YtndbkkldfinggaaDoor
