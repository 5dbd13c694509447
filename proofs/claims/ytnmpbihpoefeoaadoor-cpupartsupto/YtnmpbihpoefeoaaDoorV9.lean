/- The law: what each operation makes of two numbers. -/
import Derived.Test.YtnmpbihpoefeoaaDoorVC
import Derived.Test.YtnmpbihpoefeoaaDoorV7
import Derived.Test.YtnmpbihpoefeoaaDoorCB
namespace Go.Proofs.YtnmpbihpoefeoaaDoor
open Go.RowKit Go.Shelf
def Ae (op : Int) : Int := if 22 ≤ op ∧ op ≤ 62 then 0 else 1
def Av (op a b : Int) : Int := if 22 ≤ op ∧ op ≤ 62 then Fv op a b else 0
theorem alu8 (op a b : Int) (a0 : 0 ≤ a) (a1 : a < 18446744073709551616) (b0 : 0 ≤ b) (b1 : b < 18446744073709551616) (w : World) : Calls Tryd.prog 8 #[.int .i64 op, .int .u64 a, .int .u64 b] w fun e w' => e = .returned (.tuple #[.int .u64 (Av op a b), .int .i64 (Ae op)]) ∧ Below w.heap.size w w' := by
  unfold Av Ae
  by_cases h : 22 ≤ op ∧ op ≤ 62
  · rw [if_pos h, if_pos h]
    unfold Fv
    cases hn : isN32 op
    · exact alu8_w op a b h.1 h.2 hn a0 a1 b0 b1 w
    · exact alu8_n op a b h.1 h.2 hn a0 a1 b0 b1 w
  · rw [if_neg h, if_neg h]
    refine (alu8_o op a b (by omega) w).mono ?_
    rintro e w' ⟨rfl, rfl⟩
    exact ⟨rfl, Below.refl _ _⟩
set_option maxRecDepth 20000 in
set_option maxHeartbeats 2000000 in
theorem law3_of (op a b : Int) (a0 : 0 ≤ a) (a1 : a < 18446744073709551616) (b0 : 0 ≤ b) (b1 : b < 18446744073709551616) (w : World) (hT : Tab w) (h7 : ∀ w, Calls Tryd.prog 7 #[.int .i64 op, .int .u64 a, .int .u64 b] w fun e w' => e = .returned (.tuple #[.int .u64 (Av op a b), .int .i64 (Ae op)]) ∧ Below w.heap.size w w') :
    Calls Tryd.prog 3 #[.int .i64 op, .int .u64 a, .int .u64 b] w fun e w' => e = .returned (.bool true) ∧ Below w.heap.size w w' := by
  have H7 : Hid (∀ w, Calls Tryd.prog 7 #[.int .i64 op, .int .u64 a, .int .u64 b] w fun e w' => e = .returned (.tuple #[.int .u64 (Av op a b), .int .i64 (Ae op)]) ∧ Below w.heap.size w w') := h7
  have H8 : Hid (∀ w, Calls Tryd.prog 8 #[.int .i64 op, .int .u64 a, .int .u64 b] w fun e w' => e = .returned (.tuple #[.int .u64 (Av op a b), .int .i64 (Ae op)]) ∧ Below w.heap.size w w') := alu8 op a b a0 a1 b0 b1
  have H9 : Hid (∀ w, Calls Tryd.prog 9 #[.int .i64 op, .int .u64 a, .int .u64 b] w fun e w' => e = .returned (.tuple #[.bool (Tk op a b), .int .i64 (Te op)]) ∧ ∃ m, w' = w.drewN m) := taken9 op a b
  have H10 : Hid (∀ w, Calls Tryd.prog 10 #[.int .i64 op, .int .u64 a, .int .u64 b] w fun e w' => e = .returned (.tuple #[.bool (Tk op a b), .int .i64 (Te op)]) ∧ ∃ m, w' = w.drewN m) := taken10 op a b
  have HT : Hid (Tab w) := hT
  clear h7 hT a0 a1 b0 b1
  generalize Av op a b = v at *
  generalize Ae op = x at *
  generalize Tk op a b = t at *
  generalize Te op = y at *
  go_enter Tryd.func3, Tryd.ntmps3
  go_wp2_with fail
  refine (H7.out _).mono ?_
  rintro e w1 ⟨rfl, hb1⟩
  go_wp2_with fail
  refine (H8.out _).mono ?_
  rintro e w2 ⟨rfl, hb2⟩
  have HB2 : Hid (Below w.heap.size w w2) := hb1.trans (hb2.mono hb1.size)
  clear hb1 hb2
  go_wp2_with fail
  refine (H9.out _).mono ?_
  rintro e w3 ⟨rfl, m3, rfl⟩
  go_wp2_with fail
  refine (H10.out _).mono ?_
  rintro e w4 ⟨rfl, m4, rfl⟩
  have HB4 : Hid (Below w.heap.size w ((w2.drewN m3).drewN m4)) := below_drewN (below_drewN HB2.out m3) m4
  generalize (w2.drewN m3).drewN m4 = w5 at *
  cases t
  · go_wp2_with fail
    refine (small11 w5 (HT.out.below HB4.out)).mono ?_
    rintro e w6 ⟨rfl, hb6⟩
    have HB6 : Hid (Below w.heap.size w w6) := HB4.out.trans (hb6.mono HB4.out.size)
    clear hb6
    go_wp2
    go_ret
    exact ⟨rfl, HB6.out⟩
  · go_wp2_with fail
    refine (small11 w5 (HT.out.below HB4.out)).mono ?_
    rintro e w6 ⟨rfl, hb6⟩
    have HB6 : Hid (Below w.heap.size w w6) := HB4.out.trans (hb6.mono HB4.out.size)
    clear hb6
    go_wp2
    go_ret
    exact ⟨rfl, HB6.out⟩
end Go.Proofs.YtnmpbihpoefeoaaDoor
