/- What the document's table (FormOf) answers at every operation. -/
import Derived.Test.YtndbkkldfinggaaDoorWords
import Derived.Test.YtndbkkldfinggaaDoorX0
import Derived.Test.YtndbkkldfinggaaDoorX1
import Derived.Test.YtndbkkldfinggaaDoorX2
import Derived.Test.YtndbkkldfinggaaDoorX3
import Derived.Test.YtndbkkldfinggaaDoorY0
import Derived.Test.YtndbkkldfinggaaDoorY1
import Derived.Test.YtndbkkldfinggaaDoorY2
namespace Go.Proofs.YtndbkkldfinggaaDoor
open Go.RowKit
theorem formOf37 (op : Int) (w : World) : Calls Tryd.prog 37 #[.int .i64 op] w fun e w' => e = .returned (.agg #[.int .u8 (nth rlL op), .int .u32 (nth cdL op), .int .u32 (nth f3L op), .int .u32 (nth f7L op)]) ∧ Below w.heap.size w w' := by
  rcases Int.lt_or_le op 1 with h1 | h1
  · rw [nth_lo rlL h1, nth_lo cdL h1, nth_lo f3L h1, nth_lo f7L h1]
    exact form37_lo op h1 w
  · rcases Int.lt_or_le 65 op with h2 | h2
    · rw [nth_hi (l := rlL) rfl h2, nth_hi (l := cdL) rfl h2, nth_hi (l := f3L) rfl h2, nth_hi (l := f7L) rfl h2]
      exact form37_hi op h2 w
    · rcases ops_all h1 h2 with rfl | rfl | rfl | rfl | rfl | rfl | rfl | rfl | rfl | rfl | rfl | rfl | rfl | rfl | rfl | rfl | rfl | rfl | rfl | rfl | rfl | rfl | rfl | rfl | rfl | rfl | rfl | rfl | rfl | rfl | rfl | rfl | rfl | rfl | rfl | rfl | rfl | rfl | rfl | rfl | rfl | rfl | rfl | rfl | rfl | rfl | rfl | rfl | rfl | rfl | rfl | rfl | rfl | rfl | rfl | rfl | rfl | rfl | rfl | rfl | rfl | rfl | rfl | rfl | rfl
      · exact form37_1 w
      · exact form37_2 w
      · exact form37_3 w
      · exact form37_4 w
      · exact form37_5 w
      · exact form37_6 w
      · exact form37_7 w
      · exact form37_8 w
      · exact form37_9 w
      · exact form37_10 w
      · exact form37_11 w
      · exact form37_12 w
      · exact form37_13 w
      · exact form37_14 w
      · exact form37_15 w
      · exact form37_16 w
      · exact form37_17 w
      · exact form37_18 w
      · exact form37_19 w
      · exact form37_20 w
      · exact form37_21 w
      · exact form37_22 w
      · exact form37_23 w
      · exact form37_24 w
      · exact form37_25 w
      · exact form37_26 w
      · exact form37_27 w
      · exact form37_28 w
      · exact form37_29 w
      · exact form37_30 w
      · exact form37_31 w
      · exact form37_32 w
      · exact form37_33 w
      · exact form37_34 w
      · exact form37_35 w
      · exact form37_36 w
      · exact form37_37 w
      · exact form37_38 w
      · exact form37_39 w
      · exact form37_40 w
      · exact form37_41 w
      · exact form37_42 w
      · exact form37_43 w
      · exact form37_44 w
      · exact form37_45 w
      · exact form37_46 w
      · exact form37_47 w
      · exact form37_48 w
      · exact form37_49 w
      · exact form37_50 w
      · exact form37_51 w
      · exact form37_52 w
      · exact form37_53 w
      · exact form37_54 w
      · exact form37_55 w
      · exact form37_56 w
      · exact form37_57 w
      · exact form37_58 w
      · exact form37_59 w
      · exact form37_60 w
      · exact form37_61 w
      · exact form37_62 w
      · exact form37_63 w
      · exact form37_64 w
      · exact form37_65 w

/-- A letter of the document's forms; 0: none. -/
def IsR (r : Int) : Prop := r = 0 ∨ r = 85 ∨ r = 74 ∨ r = 73 ∨ r = 72 ∨ r = 104 ∨ r = 82 ∨ r = 83 ∨ r = 66 ∨ r = 78
/-- The program's letter for it. -/
def pOf (r : Int) : Int := if r = 104 then 87 else r
theorem isR_of (op : Int) : IsR (nth rlL op) := by
  unfold IsR
  rcases Int.lt_or_le op 1 with h1 | h1
  · rw [nth_lo rlL h1]; omega
  · rcases Int.lt_or_le 65 op with h2 | h2
    · rw [nth_hi (l := rlL) rfl h2]; omega
    · rcases ops_all h1 h2 with rfl | rfl | rfl | rfl | rfl | rfl | rfl | rfl | rfl | rfl | rfl | rfl | rfl | rfl | rfl | rfl | rfl | rfl | rfl | rfl | rfl | rfl | rfl | rfl | rfl | rfl | rfl | rfl | rfl | rfl | rfl | rfl | rfl | rfl | rfl | rfl | rfl | rfl | rfl | rfl | rfl | rfl | rfl | rfl | rfl | rfl | rfl | rfl | rfl | rfl | rfl | rfl | rfl | rfl | rfl | rfl | rfl | rfl | rfl | rfl | rfl | rfl | rfl | rfl | rfl <;> decide
def Rel (r l : Int) : Prop := (pOf r = l ∧ r ≠ 0) ∨ (r = 73 ∧ l = 76)
theorem rel_of {op : Int} (h1 : 1 ≤ op) (h2 : op ≤ 65) : Rel (nth rlL op) (nth plL op) := by
  rcases ops_all h1 h2 with rfl | rfl | rfl | rfl | rfl | rfl | rfl | rfl | rfl | rfl | rfl | rfl | rfl | rfl | rfl | rfl | rfl | rfl | rfl | rfl | rfl | rfl | rfl | rfl | rfl | rfl | rfl | rfl | rfl | rfl | rfl | rfl | rfl | rfl | rfl | rfl | rfl | rfl | rfl | rfl | rfl | rfl | rfl | rfl | rfl | rfl | rfl | rfl | rfl | rfl | rfl | rfl | rfl | rfl | rfl | rfl | rfl | rfl | rfl | rfl | rfl | rfl | rfl | rfl | rfl <;> (unfold Rel; decide)
theorem Rel.same {r l : Int} (h : Rel r l) : r ≠ 0 ∧ nRd (pOf r) = nRd l ∧ nR1 (pOf r) = nR1 l ∧ nR2 (pOf r) = nR2 l ∧ ∀ n, numB (pOf r) n = numB l n := by
  rcases h with ⟨rfl, h⟩ | ⟨rfl, rfl⟩
  · exact ⟨h, rfl, rfl, rfl, fun _ => rfl⟩
  · exact ⟨by decide, rfl, rfl, rfl, fun _ => rfl⟩
/-- What is told of a row of the table and of the fixed word. -/
def RfP (r c f g x : Int) : Prop := 0 ≤ c ∧ c < 4294967296 ∧ 0 ≤ f ∧ f < 8 ∧ 0 ≤ g ∧ g < 128 ∧ x = c + f * 4096 + g * 33554432 ∧ (r ≠ 78 → c < 128) ∧ (r = 78 ∨ r = 85 ∨ r = 74 → f = 0 ∧ g = 0) ∧ (r = 73 ∨ r = 83 ∨ r = 66 → g = 0) ∧ (r = 72 ∨ r = 104 → g % 2 = 0)
theorem rfP_of {op : Int} (h1 : 1 ≤ op) (h2 : op ≤ 65) : RfP (nth rlL op) (nth cdL op) (nth f3L op) (nth f7L op) (nth fxL op) := by
  rcases ops_all h1 h2 with rfl | rfl | rfl | rfl | rfl | rfl | rfl | rfl | rfl | rfl | rfl | rfl | rfl | rfl | rfl | rfl | rfl | rfl | rfl | rfl | rfl | rfl | rfl | rfl | rfl | rfl | rfl | rfl | rfl | rfl | rfl | rfl | rfl | rfl | rfl | rfl | rfl | rfl | rfl | rfl | rfl | rfl | rfl | rfl | rfl | rfl | rfl | rfl | rfl | rfl | rfl | rfl | rfl | rfl | rfl | rfl | rfl | rfl | rfl | rfl | rfl | rfl | rfl | rfl | rfl <;> (unfold RfP; decide)
end Go.Proofs.YtndbkkldfinggaaDoor
