/- Walks of what an instruction writes, and of the text of one that is not right. -/
import Derived.Test.YtndbkkldfinggaaDoorS8
import Derived.Test.YtndbkkldfinggaaDoorG2
namespace Go.Proofs.YtndbkkldfinggaaDoor
open Go.RowKit
/-- The register that a right instruction writes. -/
def wrI (op rd : Int) : Int := if op = 64 then 10 else rd
set_option maxHeartbeats 1000000 in
theorem text15_no (op rd r1 r2 n : Int) (h : rightB op rd r1 r2 n = false) (w : World) :
    Calls Tryd.prog 15 #[.agg #[.int .i64 op, .int .i64 rd, .int .i64 r1, .int .i64 r2, .int .i64 n]] w fun e w' => e = .returned (.tuple #[.string ⟨#[]⟩, .int .i64 11]) ∧ Below w.heap.size w w' := by
  have HR : Hid (rightB op rd r1 r2 n = false) := h
  clear h
  go_enter Tryd.func15, Tryd.ntmps15
  go_wp2_with fail
  refine (check10_no op rd r1 r2 n HR.out _).mono ?_
  rintro e w1 ⟨rfl, hb⟩
  have HB1 : Hid (Below w.heap.size w w1) := belowA hb
  clear hb
  go_wp2
  go_ret2
  exact ⟨rfl, HB1.out⟩
set_option maxHeartbeats 1000000 in
theorem writes19_no (op rd r1 r2 n : Int) (h : rightB op rd r1 r2 n = false) (w : World) :
    Calls Tryd.prog 19 #[.agg #[.int .i64 op, .int .i64 rd, .int .i64 r1, .int .i64 r2, .int .i64 n]] w fun e w' => e = .returned (.tuple #[.int .i64 0, .int .i64 11]) ∧ Below w.heap.size w w' := by
  have HR : Hid (rightB op rd r1 r2 n = false) := h
  clear h
  go_enter Tryd.func19, Tryd.ntmps19
  go_wp2_with fail
  refine (check10_no op rd r1 r2 n HR.out _).mono ?_
  rintro e w1 ⟨rfl, hb⟩
  have HB1 : Hid (Below w.heap.size w w1) := belowA hb
  clear hb
  go_wp2
  go_ret2
  exact ⟨rfl, HB1.out⟩
set_option maxHeartbeats 1000000 in
theorem writes19_yes (op rd r1 r2 n : Int) (h : rightB op rd r1 r2 n = true) (w : World) :
    Calls Tryd.prog 19 #[.agg #[.int .i64 op, .int .i64 rd, .int .i64 r1, .int .i64 r2, .int .i64 n]] w fun e w' => e = .returned (.tuple #[.int .i64 (wrI op rd), .int .i64 0]) ∧ Below w.heap.size w w' := by
  have HR : Hid (rightB op rd r1 r2 n = true) := h
  clear h
  by_cases ho : op = 64
  · rw [show wrI op rd = 10 from if_pos ho]
    subst ho
    go_enter Tryd.func19, Tryd.ntmps19
    go_wp2_with fail
    refine (check10_yes 64 rd r1 r2 n HR.out _).mono ?_
    rintro e w1 ⟨rfl, hb⟩
    obtain ⟨a0, a1, a2, a3, a4, a5⟩ := box5 w (.int .i64 64) (.int .i64 rd) (.int .i64 r1) (.int .i64 r2) (.int .i64 n) 23
    obtain ⟨c0, c1, c2, c3, c4, c5⟩ := keep5 (w := w) a5 hb a0 a1 a2 a3 a4
    have HB1 : Hid (Below w.heap.size w w1) := belowA hb
    clear hb a0 a1 a2 a3 a4 a5
    go_wp2
    go_ret2
    exact ⟨rfl, HB1.out⟩
  · rw [show wrI op rd = rd from if_neg ho]
    go_enter Tryd.func19, Tryd.ntmps19
    go_wp2_with fail
    refine (check10_yes op rd r1 r2 n HR.out _).mono ?_
    rintro e w1 ⟨rfl, hb⟩
    obtain ⟨a0, a1, a2, a3, a4, a5⟩ := box5 w (.int .i64 op) (.int .i64 rd) (.int .i64 r1) (.int .i64 r2) (.int .i64 n) 23
    obtain ⟨c0, c1, c2, c3, c4, c5⟩ := keep5 (w := w) a5 hb a0 a1 a2 a3 a4
    have HB1 : Hid (Below w.heap.size w w1) := belowA hb
    clear hb a0 a1 a2 a3 a4 a5
    go_wp2
    go_ret2
    exact ⟨rfl, HB1.out⟩
set_option maxHeartbeats 1000000 in
theorem writes20_no (op rd r1 r2 n : Int) (h : rightB op rd r1 r2 n = false) (w : World) :
    Calls Tryd.prog 20 #[.agg #[.int .i64 op, .int .i64 rd, .int .i64 r1, .int .i64 r2, .int .i64 n]] w fun e w' => e = .returned (.tuple #[.int .i64 0, .int .i64 11]) ∧ Below w.heap.size w w' := by
  have HR : Hid (rightB op rd r1 r2 n = false) := h
  clear h
  go_enter Tryd.func20, Tryd.ntmps20
  go_wp2_with fail
  refine (right24 op rd r1 r2 n _).mono ?_
  rw [HR.out]
  rintro e w1 ⟨rfl, hb⟩
  have HB1 : Hid (Below w.heap.size w w1) := belowA hb
  clear hb
  go_wp2
  go_ret2
  exact ⟨rfl, HB1.out⟩
set_option maxHeartbeats 1000000 in
theorem writes20_yes (op rd r1 r2 n : Int) (h : rightB op rd r1 r2 n = true) (w : World) :
    Calls Tryd.prog 20 #[.agg #[.int .i64 op, .int .i64 rd, .int .i64 r1, .int .i64 r2, .int .i64 n]] w fun e w' => e = .returned (.tuple #[.int .i64 (wrI op rd), .int .i64 0]) ∧ Below w.heap.size w w' := by
  have HR : Hid (rightB op rd r1 r2 n = true) := h
  clear h
  by_cases ho : op = 64
  · rw [show wrI op rd = 10 from if_pos ho]
    subst ho
    go_enter Tryd.func20, Tryd.ntmps20
    go_wp2_with fail
    refine (right24 64 rd r1 r2 n _).mono ?_
    rw [HR.out]
    rintro e w1 ⟨rfl, hb⟩
    obtain ⟨a0, a1, a2, a3, a4, a5⟩ := box5 w (.int .i64 64) (.int .i64 rd) (.int .i64 r1) (.int .i64 r2) (.int .i64 n) 23
    obtain ⟨c0, c1, c2, c3, c4, c5⟩ := keep5 (w := w) a5 hb a0 a1 a2 a3 a4
    have HB1 : Hid (Below w.heap.size w w1) := belowA hb
    clear hb a0 a1 a2 a3 a4 a5
    go_wp2
    go_ret2
    exact ⟨rfl, HB1.out⟩
  · rw [show wrI op rd = rd from if_neg ho]
    go_enter Tryd.func20, Tryd.ntmps20
    go_wp2_with fail
    refine (right24 op rd r1 r2 n _).mono ?_
    rw [HR.out]
    rintro e w1 ⟨rfl, hb⟩
    obtain ⟨a0, a1, a2, a3, a4, a5⟩ := box5 w (.int .i64 op) (.int .i64 rd) (.int .i64 r1) (.int .i64 r2) (.int .i64 n) 23
    obtain ⟨c0, c1, c2, c3, c4, c5⟩ := keep5 (w := w) a5 hb a0 a1 a2 a3 a4
    have HB1 : Hid (Below w.heap.size w w1) := belowA hb
    clear hb a0 a1 a2 a3 a4 a5
    go_wp2
    go_ret2
    exact ⟨rfl, HB1.out⟩
end Go.Proofs.YtndbkkldfinggaaDoor
