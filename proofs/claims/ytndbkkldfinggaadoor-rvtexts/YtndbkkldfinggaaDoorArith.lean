/- Plain arithmetic of RV64IM's words: forms of operations, what a right instruction is, its word as a sum of fields; nothing of the program. -/
import Derived.Laws.BitsAllLaws
import Derived.KernelRfl
namespace Go.Proofs.YtndbkkldfinggaaDoor
/-- The entry of a list at an operation's number, counted from 1; 0 beyond it. -/
def nth (l : List Int) (op : Int) : Int := if 1 ≤ op then l.getD (op - 1).toNat 0 else 0
def plL : List Int := [85, 85, 74, 76, 66, 66, 66, 66, 66, 66, 76, 76, 76, 76, 76, 76, 76, 83, 83, 83, 83, 73, 73, 73, 73, 73, 73, 72, 72, 72, 73, 87, 87, 87, 82, 82, 82, 82, 82, 82, 82, 82, 82, 82, 82, 82, 82, 82, 82, 82, 82, 82, 82, 82, 82, 82, 82, 82, 82, 82, 82, 82, 78, 78, 78]
def rlL : List Int := [85, 85, 74, 73, 66, 66, 66, 66, 66, 66, 73, 73, 73, 73, 73, 73, 73, 83, 83, 83, 83, 73, 73, 73, 73, 73, 73, 72, 72, 72, 73, 104, 104, 104, 82, 82, 82, 82, 82, 82, 82, 82, 82, 82, 82, 82, 82, 82, 82, 82, 82, 82, 82, 82, 82, 82, 82, 82, 82, 82, 82, 82, 78, 78, 78]
def cdL : List Int := [55, 23, 111, 103, 99, 99, 99, 99, 99, 99, 3, 3, 3, 3, 3, 3, 3, 35, 35, 35, 35, 19, 19, 19, 19, 19, 19, 19, 19, 19, 27, 27, 27, 27, 51, 51, 51, 51, 51, 51, 51, 51, 51, 51, 59, 59, 59, 59, 59, 51, 51, 51, 51, 51, 51, 51, 51, 59, 59, 59, 59, 59, 15, 115, 1048691]
def f3L : List Int := [0, 0, 0, 0, 0, 1, 4, 5, 6, 7, 0, 1, 2, 3, 4, 5, 6, 0, 1, 2, 3, 0, 2, 3, 4, 6, 7, 1, 5, 5, 0, 1, 5, 5, 0, 0, 1, 2, 3, 4, 5, 5, 6, 7, 0, 0, 1, 5, 5, 0, 1, 2, 3, 4, 5, 6, 7, 0, 4, 5, 6, 7, 0, 0, 0]
def f7L : List Int := [0, 0, 0, 0, 0, 0, 0, 0, 0, 0, 0, 0, 0, 0, 0, 0, 0, 0, 0, 0, 0, 0, 0, 0, 0, 0, 0, 0, 0, 32, 0, 0, 0, 32, 0, 32, 0, 0, 0, 0, 0, 32, 0, 0, 0, 32, 0, 0, 32, 1, 1, 1, 1, 1, 1, 1, 1, 1, 1, 1, 1, 1, 0, 0, 0]
def fxL : List Int := [55, 23, 111, 103, 99, 4195, 16483, 20579, 24675, 28771, 3, 4099, 8195, 12291, 16387, 20483, 24579, 35, 4131, 8227, 12323, 19, 8211, 12307, 16403, 24595, 28691, 4115, 20499, 1073762323, 27, 4123, 20507, 1073762331, 51, 1073741875, 4147, 8243, 12339, 16435, 20531, 1073762355, 24627, 28723, 59, 1073741883, 4155, 20539, 1073762363, 33554483, 33558579, 33562675, 33566771, 33570867, 33574963, 33579059, 33583155, 33554491, 33570875, 33574971, 33579067, 33583163, 15, 115, 1048691]
theorem ops_all {op : Int} (h1 : 1 ≤ op) (h2 : op ≤ 65) : op = 1 ∨ op = 2 ∨ op = 3 ∨ op = 4 ∨ op = 5 ∨ op = 6 ∨ op = 7 ∨ op = 8 ∨ op = 9 ∨ op = 10 ∨ op = 11 ∨ op = 12 ∨ op = 13 ∨ op = 14 ∨ op = 15 ∨ op = 16 ∨ op = 17 ∨ op = 18 ∨ op = 19 ∨ op = 20 ∨ op = 21 ∨ op = 22 ∨ op = 23 ∨ op = 24 ∨ op = 25 ∨ op = 26 ∨ op = 27 ∨ op = 28 ∨ op = 29 ∨ op = 30 ∨ op = 31 ∨ op = 32 ∨ op = 33 ∨ op = 34 ∨ op = 35 ∨ op = 36 ∨ op = 37 ∨ op = 38 ∨ op = 39 ∨ op = 40 ∨ op = 41 ∨ op = 42 ∨ op = 43 ∨ op = 44 ∨ op = 45 ∨ op = 46 ∨ op = 47 ∨ op = 48 ∨ op = 49 ∨ op = 50 ∨ op = 51 ∨ op = 52 ∨ op = 53 ∨ op = 54 ∨ op = 55 ∨ op = 56 ∨ op = 57 ∨ op = 58 ∨ op = 59 ∨ op = 60 ∨ op = 61 ∨ op = 62 ∨ op = 63 ∨ op = 64 ∨ op = 65 := by omega
theorem nth_lo (l : List Int) {op : Int} (h : op < 1) : nth l op = 0 := by unfold nth; rw [if_neg (by omega)]
theorem nth_hi {l : List Int} (hl : l.length = 65) {op : Int} (h : 65 < op) : nth l op = 0 := by
  unfold nth; rw [if_pos (by omega), List.getD_eq_getElem?_getD, List.getElem?_eq_none (by omega)]; rfl
/-- Does a register keep to what its form asks? -/
def regB (named : Bool) (r : Int) : Bool := if named then decide (0 ≤ r) && decide (r ≤ 31) else r == 0
def nRd (l : Int) : Bool := l == 82 || l == 73 || l == 76 || l == 72 || l == 87 || l == 85 || l == 74
def nR1 (l : Int) : Bool := l == 82 || l == 73 || l == 76 || l == 72 || l == 87 || l == 83 || l == 66
def nR2 (l : Int) : Bool := l == 82 || l == 83 || l == 66
def loN (l : Int) : Int := if l = 85 then -524288 else if l = 74 then -1048576 else if l = 73 ∨ l = 76 ∨ l = 83 then -2048 else if l = 66 then -4096 else 0
def hiN (l : Int) : Int := if l = 85 then 524287 else if l = 74 then 1048574 else if l = 73 ∨ l = 76 ∨ l = 83 then 2047 else if l = 66 then 4094 else if l = 72 then 63 else if l = 87 then 31 else 0
def stN (l : Int) : Int := if l = 74 ∨ l = 66 then 2 else 1
/-- Is a number one of a form's? -/
def numB (l n : Int) : Bool := decide (loN l ≤ n) && decide (n ≤ hiN l) && (n % stN l == 0)
/-- A letter of a form. -/
def IsL (l : Int) : Prop := l = 85 ∨ l = 74 ∨ l = 73 ∨ l = 76 ∨ l = 72 ∨ l = 87 ∨ l = 83 ∨ l = 66 ∨ l = 82 ∨ l = 78
theorem isL_of {op : Int} (h1 : 1 ≤ op) (h2 : op ≤ 65) : IsL (nth plL op) := by
  have h := ops_all h1 h2
  unfold IsL
  rcases h with rfl | rfl | rfl | rfl | rfl | rfl | rfl | rfl | rfl | rfl | rfl | rfl | rfl | rfl | rfl | rfl | rfl | rfl | rfl | rfl | rfl | rfl | rfl | rfl | rfl | rfl | rfl | rfl | rfl | rfl | rfl | rfl | rfl | rfl | rfl | rfl | rfl | rfl | rfl | rfl | rfl | rfl | rfl | rfl | rfl | rfl | rfl | rfl | rfl | rfl | rfl | rfl | rfl | rfl | rfl | rfl | rfl | rfl | rfl | rfl | rfl | rfl | rfl | rfl | rfl <;> decide
theorem isL_ne {l : Int} (h : IsL l) : l ≠ 0 := by unfold IsL at h; omega
/-- Is an instruction right? -/
def rightB (op rd r1 r2 n : Int) : Bool :=
  nth plL op != 0 && (regB (nRd (nth plL op)) rd && regB (nR1 (nth plL op)) r1 && regB (nR2 (nth plL op)) r2) && numB (nth plL op) n
theorem right_lo {op : Int} (h : op < 1) (rd r1 r2 n : Int) : rightB op rd r1 r2 n = false := by simp [rightB, nth_lo _ h]
theorem right_hi {op : Int} (h : 65 < op) (rd r1 r2 n : Int) : rightB op rd r1 r2 n = false := by simp [rightB, nth_hi (l := plL) rfl h]
theorem ops_of_right {op rd r1 r2 n : Int} (h : rightB op rd r1 r2 n = true) : 1 ≤ op ∧ op ≤ 65 := by
  rcases Int.lt_or_le op 1 with h1 | h1
  · rw [right_lo h1] at h; cases h
  · rcases Int.lt_or_le 65 op with h2 | h2
    · rw [right_hi h2] at h; cases h
    · exact ⟨h1, h2⟩
theorem tmod2 (n : Int) : (n.tmod 2 = 0) ↔ n % 2 = 0 := by rw [← Int.dvd_iff_tmod_eq_zero, Int.dvd_iff_emod_eq_zero]
end Go.Proofs.YtndbkkldfinggaaDoor
