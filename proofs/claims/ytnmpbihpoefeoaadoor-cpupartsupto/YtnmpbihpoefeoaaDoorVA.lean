/- The law, whole: Alu of every operation. -/
import Derived.Test.YtnmpbihpoefeoaaDoorV9
import Derived.Test.YtnmpbihpoefeoaaDoorW1
import Derived.Test.YtnmpbihpoefeoaaDoorW2
import Derived.Test.YtnmpbihpoefeoaaDoorW3
import Derived.Test.YtnmpbihpoefeoaaDoorXA
namespace Go.Proofs.YtnmpbihpoefeoaaDoor
open Go.RowKit Go.Shelf
theorem as_drew {f : FuncId} {args : Array Value} {w : World} {v : Value} (h : Calls Tryd.prog f args w fun e w' => e = .returned v ∧ w' = w) : Calls Tryd.prog f args w fun e w' => e = .returned v ∧ ∃ m, w' = w.drewN m := h.mono fun _ _ ⟨a, b⟩ => ⟨a, 0, b⟩
theorem sum20 (op a b : Int) (h1 : 22 ≤ op) (h2 : op ≤ 62) (a0 : 0 ≤ a) (a1 : a < 18446744073709551616) (b0 : 0 ≤ b) (b1 : b < 18446744073709551616) (w : World) : Calls Tryd.prog 20 #[.int .i64 op, .int .u64 a, .int .u64 b] w fun e w' => e = .returned (.tuple #[.int .u64 (Pv op a b), .bool (isN32 op)]) ∧ ∃ m, w' = w.drewN m := by
  rcases (by omega : op = 22 ∨ op = 23 ∨ op = 24 ∨ op = 25 ∨ op = 26 ∨ op = 27 ∨ op = 28 ∨ op = 29 ∨ op = 30 ∨ op = 31 ∨ op = 32 ∨ op = 33 ∨ op = 34 ∨ op = 35 ∨ op = 36 ∨ op = 37 ∨ op = 38 ∨ op = 39 ∨ op = 40 ∨ op = 41 ∨ op = 42 ∨ op = 43 ∨ op = 44 ∨ op = 45 ∨ op = 46 ∨ op = 47 ∨ op = 48 ∨ op = 49 ∨ op = 50 ∨ op = 51 ∨ op = 52 ∨ op = 53 ∨ op = 54 ∨ op = 55 ∨ op = 56 ∨ op = 57 ∨ op = 58 ∨ op = 59 ∨ op = 60 ∨ op = 61 ∨ op = 62) with rfl | rfl | rfl | rfl | rfl | rfl | rfl | rfl | rfl | rfl | rfl | rfl | rfl | rfl | rfl | rfl | rfl | rfl | rfl | rfl | rfl | rfl | rfl | rfl | rfl | rfl | rfl | rfl | rfl | rfl | rfl | rfl | rfl | rfl | rfl | rfl | rfl | rfl | rfl | rfl | rfl
  · exact as_drew (sum20_22 a b a0 a1 b0 b1 w)
  · exact as_drew (sum20_23 a b a0 a1 b0 b1 w)
  · exact as_drew (sum20_24 a b a0 a1 b0 b1 w)
  · exact as_drew (sum20_25 a b a0 a1 b0 b1 w)
  · exact as_drew (sum20_26 a b a0 a1 b0 b1 w)
  · exact as_drew (sum20_27 a b a0 a1 b0 b1 w)
  · exact as_drew (sum20_28 a b a0 a1 b0 b1 w)
  · exact as_drew (sum20_29 a b a0 a1 b0 b1 w)
  · exact as_drew (sum20_30 a b a0 a1 b0 b1 w)
  · exact as_drew (sum20_31 a b a0 a1 b0 b1 w)
  · exact as_drew (sum20_32 a b a0 a1 b0 b1 w)
  · exact as_drew (sum20_33 a b a0 a1 b0 b1 w)
  · exact as_drew (sum20_34 a b a0 a1 b0 b1 w)
  · exact as_drew (sum20_35 a b a0 a1 b0 b1 w)
  · exact as_drew (sum20_36 a b a0 a1 b0 b1 w)
  · exact as_drew (sum20_37 a b a0 a1 b0 b1 w)
  · exact as_drew (sum20_38 a b a0 a1 b0 b1 w)
  · exact as_drew (sum20_39 a b a0 a1 b0 b1 w)
  · exact as_drew (sum20_40 a b a0 a1 b0 b1 w)
  · exact as_drew (sum20_41 a b a0 a1 b0 b1 w)
  · exact as_drew (sum20_42 a b a0 a1 b0 b1 w)
  · exact as_drew (sum20_43 a b a0 a1 b0 b1 w)
  · exact as_drew (sum20_44 a b a0 a1 b0 b1 w)
  · exact as_drew (sum20_45 a b a0 a1 b0 b1 w)
  · exact as_drew (sum20_46 a b a0 a1 b0 b1 w)
  · exact as_drew (sum20_47 a b a0 a1 b0 b1 w)
  · exact as_drew (sum20_48 a b a0 a1 b0 b1 w)
  · exact as_drew (sum20_49 a b a0 a1 b0 b1 w)
  · exact sum20_p 50 a b _ _ (by omega) w (prod36_50 a b a0 a1 b0 b1 w)
  · exact sum20_p 51 a b _ _ (by omega) w (prod36_51 a b a0 a1 b0 b1 w)
  · exact sum20_p 52 a b _ _ (by omega) w (prod36_52 a b a0 a1 b0 b1 w)
  · exact sum20_p 53 a b _ _ (by omega) w (prod36_53 a b a0 a1 b0 b1 w)
  · exact sum20_p 54 a b _ _ (by omega) w (prod36_54 a b a0 a1 b0 b1 w)
  · exact sum20_p 55 a b _ _ (by omega) w (prod36_55 a b a0 a1 b0 b1 w)
  · exact sum20_p 56 a b _ _ (by omega) w (prod36_56 a b a0 a1 b0 b1 w)
  · exact sum20_p 57 a b _ _ (by omega) w (prod36_57 a b a0 a1 b0 b1 w)
  · exact sum20_p 58 a b _ _ (by omega) w (prod36_58 a b a0 a1 b0 b1 w)
  · exact sum20_p 59 a b _ _ (by omega) w (prod36_59 a b a0 a1 b0 b1 w)
  · exact sum20_p 60 a b _ _ (by omega) w (prod36_60 a b a0 a1 b0 b1 w)
  · exact sum20_p 61 a b _ _ (by omega) w (prod36_61 a b a0 a1 b0 b1 w)
  · exact sum20_p 62 a b _ _ (by omega) w (prod36_62 a b a0 a1 b0 b1 w)
theorem alu7 (op a b : Int) (a0 : 0 ≤ a) (a1 : a < 18446744073709551616) (b0 : 0 ≤ b) (b1 : b < 18446744073709551616) (w : World) : Calls Tryd.prog 7 #[.int .i64 op, .int .u64 a, .int .u64 b] w fun e w' => e = .returned (.tuple #[.int .u64 (Av op a b), .int .i64 (Ae op)]) ∧ Below w.heap.size w w' := by
  unfold Av Ae
  by_cases h : 22 ≤ op ∧ op ≤ 62
  · rw [if_pos h, if_pos h]
    refine (alu7_any op a b h.1 h.2 w (sum20 op a b h.1 h.2 a0 a1 b0 b1 w)).mono ?_
    rintro e w' ⟨rfl, m, rfl⟩
    exact ⟨rfl, below_drewN (Below.refl _ _) m⟩
  · rw [if_neg h, if_neg h]
    refine (alu7_o op a b (by omega) w).mono ?_
    rintro e w' ⟨rfl, rfl⟩
    exact ⟨rfl, Below.refl _ _⟩
theorem law3 (op a b : Int) (a0 : 0 ≤ a) (a1 : a < 18446744073709551616) (b0 : 0 ≤ b) (b1 : b < 18446744073709551616) (w : World) (hT : Tab w) :
    Calls Tryd.prog 3 #[.int .i64 op, .int .u64 a, .int .u64 b] w fun e w' => e = .returned (.bool true) ∧ Below w.heap.size w w' :=
  law3_of op a b a0 a1 b0 b1 w hT (alu7 op a b a0 a1 b0 b1)
end Go.Proofs.YtnmpbihpoefeoaaDoor
