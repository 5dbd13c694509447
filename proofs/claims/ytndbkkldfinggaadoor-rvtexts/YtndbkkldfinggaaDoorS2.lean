/- Walks of names: what each answers. -/
import Derived.Test.YtndbkkldfinggaaDoorS1
namespace Go.Proofs.YtndbkkldfinggaaDoor
open Go.RowKit
def nmL : List (List UInt8) := [[108, 117, 105], [97, 117, 105, 112, 99], [106, 97, 108], [106, 97, 108, 114], [98, 101, 113], [98, 110, 101], [98, 108, 116], [98, 103, 101], [98, 108, 116, 117], [98, 103, 101, 117], [108, 98], [108, 104], [108, 119], [108, 100], [108, 98, 117], [108, 104, 117], [108, 119, 117], [115, 98], [115, 104], [115, 119], [115, 100], [97, 100, 100, 105], [115, 108, 116, 105], [115, 108, 116, 105, 117], [120, 111, 114, 105], [111, 114, 105], [97, 110, 100, 105], [115, 108, 108, 105], [115, 114, 108, 105], [115, 114, 97, 105], [97, 100, 100, 105, 119], [115, 108, 108, 105, 119], [115, 114, 108, 105, 119], [115, 114, 97, 105, 119], [97, 100, 100], [115, 117, 98], [115, 108, 108], [115, 108, 116], [115, 108, 116, 117], [120, 111, 114], [115, 114, 108], [115, 114, 97], [111, 114], [97, 110, 100], [97, 100, 100, 119], [115, 117, 98, 119], [115, 108, 108, 119], [115, 114, 108, 119], [115, 114, 97, 119], [109, 117, 108], [109, 117, 108, 104], [109, 117, 108, 104, 115, 117], [109, 117, 108, 104, 117], [100, 105, 118], [100, 105, 118, 117], [114, 101, 109], [114, 101, 109, 117], [109, 117, 108, 119], [100, 105, 118, 119], [100, 105, 118, 117, 119], [114, 101, 109, 119], [114, 101, 109, 117, 119], [102, 101, 110, 99, 101], [101, 99, 97, 108, 108], [101, 98, 114, 101, 97, 107]]
/-- An operation's name; empty: there is none. -/
def nameT (op : Int) : List UInt8 := if 1 ≤ op then nmL.getD (op - 1).toNat [] else []
theorem nameT_lo {op : Int} (h : op < 1) : nameT op = [] := by unfold nameT; rw [if_neg (by omega)]
theorem nameT_hi {op : Int} (h : 65 < op) : nameT op = [] := by
  unfold nameT; rw [if_pos (by omega), List.getD_eq_getElem?_getD, List.getElem?_eq_none (by simp [nmL]; omega)]; rfl
theorem name_len (op : Int) : (nameT op).length ≤ 6 := by
  rcases Int.lt_or_le op 1 with h | h
  · rw [nameT_lo h]; decide
  · rcases Int.lt_or_le 65 op with k | k
    · rw [nameT_hi k]; decide
    · rcases ops_all h k with rfl | rfl | rfl | rfl | rfl | rfl | rfl | rfl | rfl | rfl | rfl | rfl | rfl | rfl | rfl | rfl | rfl | rfl | rfl | rfl | rfl | rfl | rfl | rfl | rfl | rfl | rfl | rfl | rfl | rfl | rfl | rfl | rfl | rfl | rfl | rfl | rfl | rfl | rfl | rfl | rfl | rfl | rfl | rfl | rfl | rfl | rfl | rfl | rfl | rfl | rfl | rfl | rfl | rfl | rfl | rfl | rfl | rfl | rfl | rfl | rfl | rfl | rfl | rfl | rfl <;> decide
/-- The table of names lies where the program's text lays it. -/
def Nam (w : World) : Prop := 1 < w.heap.size ∧ ∀ k : Int, 0 ≤ k → k ≤ 65 → w.cell? ⟨1, k.toNat, none⟩ = some (.string (tx (nameT k)))
theorem Nam.below {w w' : World} (h : Nam w) (hb : Below w.heap.size w w') : Nam w' :=
  ⟨Nat.lt_of_lt_of_le h.1 hb.size, fun k h1 h2 => (hb.cell (p := ⟨1, k.toNat, none⟩) h.1).trans (h.2 k h1 h2)⟩
set_option maxHeartbeats 600000 in
theorem name22 (op : Int) (w : World) (hN : Nam w) : Calls Tryd.prog 22 #[.int .i64 op] w fun e w' => e = .returned (.string (tx (nameT op))) ∧ w' = w := by
  by_cases h0 : op < 0
  · rw [nameT_lo (by omega)]
    go_enter Tryd.func22, Tryd.ntmps22
    go_wp2
    go_ret
    exact ⟨rfl, rfl⟩
  · by_cases h1 : 66 ≤ op
    · rw [nameT_hi (by omega)]
      go_enter Tryd.func22, Tryd.ntmps22
      go_wp2
      go_ret
      exact ⟨rfl, rfl⟩
    · have hc := hN.2 op (by omega) (by omega)
      have h2 : 0 ≤ op := by omega
      have h3 : op < 66 := by omega
      clear hN h0 h1
      go_enter Tryd.func22, Tryd.ntmps22
      go_wp2
      go_ret
      exact ⟨rfl, rfl⟩
theorem names_at (op : Int) (h1 : 1 ≤ op) (h2 : op ≤ 65) (h5 : (op - 1).toNat < 65) : ([.string ⟨#[108, 117, 105]⟩, .string ⟨#[97, 117, 105, 112, 99]⟩, .string ⟨#[106, 97, 108]⟩, .string ⟨#[106, 97, 108, 114]⟩, .string ⟨#[98, 101, 113]⟩, .string ⟨#[98, 110, 101]⟩, .string ⟨#[98, 108, 116]⟩, .string ⟨#[98, 103, 101]⟩, .string ⟨#[98, 108, 116, 117]⟩, .string ⟨#[98, 103, 101, 117]⟩, .string ⟨#[108, 98]⟩, .string ⟨#[108, 104]⟩, .string ⟨#[108, 119]⟩, .string ⟨#[108, 100]⟩, .string ⟨#[108, 98, 117]⟩, .string ⟨#[108, 104, 117]⟩, .string ⟨#[108, 119, 117]⟩, .string ⟨#[115, 98]⟩, .string ⟨#[115, 104]⟩, .string ⟨#[115, 119]⟩, .string ⟨#[115, 100]⟩, .string ⟨#[97, 100, 100, 105]⟩, .string ⟨#[115, 108, 116, 105]⟩, .string ⟨#[115, 108, 116, 105, 117]⟩, .string ⟨#[120, 111, 114, 105]⟩, .string ⟨#[111, 114, 105]⟩, .string ⟨#[97, 110, 100, 105]⟩, .string ⟨#[115, 108, 108, 105]⟩, .string ⟨#[115, 114, 108, 105]⟩, .string ⟨#[115, 114, 97, 105]⟩, .string ⟨#[97, 100, 100, 105, 119]⟩, .string ⟨#[115, 108, 108, 105, 119]⟩, .string ⟨#[115, 114, 108, 105, 119]⟩, .string ⟨#[115, 114, 97, 105, 119]⟩, .string ⟨#[97, 100, 100]⟩, .string ⟨#[115, 117, 98]⟩, .string ⟨#[115, 108, 108]⟩, .string ⟨#[115, 108, 116]⟩, .string ⟨#[115, 108, 116, 117]⟩, .string ⟨#[120, 111, 114]⟩, .string ⟨#[115, 114, 108]⟩, .string ⟨#[115, 114, 97]⟩, .string ⟨#[111, 114]⟩, .string ⟨#[97, 110, 100]⟩, .string ⟨#[97, 100, 100, 119]⟩, .string ⟨#[115, 117, 98, 119]⟩, .string ⟨#[115, 108, 108, 119]⟩, .string ⟨#[115, 114, 108, 119]⟩, .string ⟨#[115, 114, 97, 119]⟩, .string ⟨#[109, 117, 108]⟩, .string ⟨#[109, 117, 108, 104]⟩, .string ⟨#[109, 117, 108, 104, 115, 117]⟩, .string ⟨#[109, 117, 108, 104, 117]⟩, .string ⟨#[100, 105, 118]⟩, .string ⟨#[100, 105, 118, 117]⟩, .string ⟨#[114, 101, 109]⟩, .string ⟨#[114, 101, 109, 117]⟩, .string ⟨#[109, 117, 108, 119]⟩, .string ⟨#[100, 105, 118, 119]⟩, .string ⟨#[100, 105, 118, 117, 119]⟩, .string ⟨#[114, 101, 109, 119]⟩, .string ⟨#[114, 101, 109, 117, 119]⟩, .string ⟨#[102, 101, 110, 99, 101]⟩, .string ⟨#[101, 99, 97, 108, 108]⟩, .string ⟨#[101, 98, 114, 101, 97, 107]⟩] : List Value)[(op - 1).toNat]'h5 = .string (tx (nameT op)) := by
  rcases ops_all h1 h2 with rfl | rfl | rfl | rfl | rfl | rfl | rfl | rfl | rfl | rfl | rfl | rfl | rfl | rfl | rfl | rfl | rfl | rfl | rfl | rfl | rfl | rfl | rfl | rfl | rfl | rfl | rfl | rfl | rfl | rfl | rfl | rfl | rfl | rfl | rfl | rfl | rfl | rfl | rfl | rfl | rfl | rfl | rfl | rfl | rfl | rfl | rfl | rfl | rfl | rfl | rfl | rfl | rfl | rfl | rfl | rfl | rfl | rfl | rfl | rfl | rfl | rfl | rfl | rfl | rfl <;> rfl
end Go.Proofs.YtndbkkldfinggaaDoor
